/- SpanGaps' function returns true. -/
import Derived.Test.YtpafnakepgjmnaaSp7
import Derived.Test.YtpafnakepgjmnaaAw
namespace Go.Proofs.Ytpafnakepgjmnaa
open Go.RowKit Go.Lib Go.Shelf

theorem ret_none {f : Nat} {args : Array Value} {w : World} {E : Int} (h : Calls Try.prog f args w (RetSpE w [] E)) :
    Calls Try.prog f args w fun e w' => (∃ A c, e = .returned (.tuple #[.slice A 0 c, .int .i64 E])) ∧ Below w.heap.size w w' :=
  h.mono fun e w' ⟨v, he, ho, hb⟩ => by
    obtain ⟨A, c, rfl, _⟩ := ho.view
    exact ⟨⟨A, c, he⟩, hb⟩
theorem in_eq {l : List Sp} {A : Option Addr} {n c : Nat} {d : Int} {w : World} {r : Bool} (hr : memB l d = r) (hn : l.length = n) (hm : n ≤ 4611686018427387904) (hA : SpH w A l) :
    Calls Try.prog 20 #[.slice A n c, .int .i64 d] w fun e w' => e = .returned (.bool r) ∧ w' = w := by
  rw [← hr]; exact in_any l A n c d w hn hm hA

set_option maxRecDepth 100000 in
set_option maxHeartbeats 8000000 in
theorem gaps_law (z0 : List Int) (day : Int) (X0 : Option Addr) (n0 k0 : Nat) (w : World) (b0 : n0 ≤ 4611686018427387904) (h0 : U16H w X0 n0 z0) (hd1 : -9223372036854775808 ≤ day) (hd2 : day ≤ 9223372036854775807) :
    Calls Try.prog 9 #[.slice X0 n0 k0, .int .i64 day] w fun e w' => e = .returned (.bool true) ∧ Below w.heap.size w w' := by
  have HB := hid (Below.refl w.heap.size w)
  have U0 := hid h0
  clear h0
  go_enter Try.func9, Try.ntmps9
  go_wp2_with fail
  refine (awake_any _).mono ?_
  rintro e u1 ⟨rfl, h⟩
  replace HB := hid (HB.out.trans (h.mono HB.out.size))
  clear h
  go_wp2_with fail
  refine (built_any z0 X0 n0 k0 _ b0 (U0.out.below HB.out)).mono ?_
  rintro e u2 ⟨v, a, rfl, Ia, la, ho, h⟩
  obtain ⟨Aa, ca, rfl, hca, _, Sa⟩ := ho.view
  clear ho
  replace Sa := hid Sa
  replace Ia := hid Ia
  replace HB := hid (HB.out.trans (h.mono HB.out.size))
  clear h
  by_cases hd : day < 0
  · go_wp2_with fail
    refine (ret_none (bridge_no a _ _ _ _ _ rfl (by omega) (fun h => absurd h.2 (by omega)) Sa.out)).mono ?_
    rintro e u11 ⟨⟨_, _, rfl⟩, h⟩
    replace Sa := hid (Sa.out.below h)
    replace HB := hid (HB.out.trans (h.mono HB.out.size))
    clear h
    go_wp2
    go_ret
    exact ⟨rfl, HB.out⟩
  · have hd0 : 0 ≤ day := Int.not_lt.1 hd
    have HG := gaps_all Ia.out hd0
    obtain ⟨b, Hb⟩ : ∃ r, Hid (mergeL day a = r) := ⟨_, rfl⟩
    obtain ⟨r, Hr⟩ : ∃ l, Hid (gapsL day a = l) := ⟨_, rfl⟩
    rw [Hb.out, Hr.out] at HG
    obtain ⟨Ib, f2, f3, f4, f5, f6, f7⟩ := HG
    replace Ib := hid Ib
    have F2 := hid f2
    have F3 := hid f3
    have F4 := hid f4
    have F5 := hid f5
    have F6 := hid f6
    have F7 := hid f7
    have Ir : Hid (IsSet r) := by rw [← Hr.out]; exact gapsL_isSet Ia.out _
    have lb := Ib.out.len_bd
    have lr := Ir.out.len_bd
    clear f2 f3 f4 f5 f6 f7
    obtain ⟨z, ta, tb⟩ : ∃ z : Bool, ((a.length : Int) == 0) = z ∧ ((b.length : Int) == 0) = z := by
      rcases F7.out with ⟨h1, h2⟩ | ⟨h1, h2, _⟩
      · exact ⟨true, by rw [h1]; rfl, by rw [h2]; rfl⟩
      · exact ⟨false, by rw [beq_eq_false_iff_ne]; omega, by rw [beq_eq_false_iff_ne]; omega⟩
    have TA := hid ta
    have TB := hid tb
    clear ta tb
    go_wp2_with fail
    refine (bridge_eq (la := a) (R := b) (d := day) Hb.out Ia.out hd0 rfl Sa.out).mono ?_
    rintro e u21 ⟨v, rfl, ho, h⟩
    obtain ⟨Ab, cb, rfl, hcb, _, Sb⟩ := ho.view
    clear ho
    replace Sb := hid Sb
    replace Sa := hid (Sa.out.below h)
    replace HB := hid (HB.out.trans (h.mono HB.out.size))
    clear h
    go_wp2_with fail
    refine (bridge_eq (la := b) (R := b) (d := day) F2.out Ib.out hd0 rfl Sb.out).mono ?_
    rintro e u22 ⟨v, rfl, ho, h⟩
    obtain ⟨Ay, cy, rfl, hcy, _, Sy⟩ := ho.view
    clear ho
    replace Sy := hid Sy
    replace Sa := hid (Sa.out.below h)
    replace Sb := hid (Sb.out.below h)
    replace HB := hid (HB.out.trans (h.mono HB.out.size))
    clear h
    go_wp2_with fail
    refine (minus_eq (la := b) (lb := a) (R := r) F3.out Ib.out Ia.out rfl rfl Sb.out Sa.out).mono ?_
    rintro e u23 ⟨v, rfl, ho, h⟩
    obtain ⟨Ar, cr, rfl, hcr, _, Sr⟩ := ho.view
    clear ho
    replace Sr := hid Sr
    replace Sa := hid (Sa.out.below h)
    replace Sb := hid (Sb.out.below h)
    replace Sy := hid (Sy.out.below h)
    replace HB := hid (HB.out.trans (h.mono HB.out.size))
    clear h
    go_wp2_with fail
    refine (valid_eq (la := b) (r := true) (validB_true.2 Ib.out) rfl (by omega) Sb.out).mono ?_
    rintro e u24 ⟨rfl, h⟩
    replace Sa := hid (Sa.out.below h)
    replace Sb := hid (Sb.out.below h)
    replace Sy := hid (Sy.out.below h)
    replace Sr := hid (Sr.out.below h)
    replace HB := hid (HB.out.trans (h.mono HB.out.size))
    clear h
    go_wp2_with fail
    refine (within_eq (la := a) (lb := b) (r := true) F4.out Ia.out Ib.out rfl rfl Sa.out Sb.out).mono ?_
    rintro e u25 ⟨rfl, h⟩
    replace Sa := hid (Sa.out.below h)
    replace Sb := hid (Sb.out.below h)
    replace Sy := hid (Sy.out.below h)
    replace Sr := hid (Sr.out.below h)
    replace HB := hid (HB.out.trans (h.mono HB.out.size))
    clear h
    go_wp2_with fail
    refine (same_eq (la := b) (lb := b) (r := true) (decide_eq_true rfl) rfl rfl (by omega) (by omega) Sy.out Sb.out).mono ?_
    rintro e u26 ⟨rfl, h⟩
    replace Sa := hid (Sa.out.below h)
    replace Sb := hid (Sb.out.below h)
    replace Sy := hid (Sy.out.below h)
    replace Sr := hid (Sr.out.below h)
    replace HB := hid (HB.out.trans (h.mono HB.out.size))
    clear h
    clear Sy
    have ta := TA.out
    have tb := TB.out
    have tz : (z != z) = false := by simp
    obtain ⟨bc, Hbc⟩ : ∃ m, Hid (b.length = m) := ⟨_, rfl⟩
    obtain ⟨ac, Hac⟩ : ∃ m, Hid (a.length = m) := ⟨_, rfl⟩
    obtain ⟨rc, Hrc⟩ : ∃ m, Hid (r.length = m) := ⟨_, rfl⟩
    rw [Hac.out] at ta hca la ⊢
    rw [Hbc.out] at tb hcb lb ⊢
    rw [Hrc.out] at hcr lr ⊢
    go_wp2
    clear ta tb tz
    generalize u26 = W0 at *
    go_loopw [12] (fun i wr => ∃ k : Nat, 1 ≤ k ∧ i = .int .i64 k ∧ Below W0.heap.size W0 wr) (fun i _ => bc - (intOf i).toNat)
    case atStart => exact ⟨1, by omega, rfl, Below.refl _ _⟩
    case round =>
      obtain ⟨k, hk, rfl, h⟩ := hrel
      have HBk := hid h
      replace Sa := hid (Sa.out.below h)
      replace Sb := hid (Sb.out.below h)
      replace Sr := hid (Sr.out.below h)
      replace HB := hid (HB.out.trans (h.mono HB.out.size))
      clear h
      by_cases hlt : k < bc
      · obtain ⟨m, rfl⟩ : ∃ m, k = m + 1 := ⟨k - 1, by omega⟩
        obtain ⟨Bb, Ob, e, hBb, hc⟩ := Sb.out.at_ Hbc.out (by omega)
        subst e
        obtain ⟨x, hx⟩ : ∃ x, fr b (m + 1) = x := ⟨_, rfl⟩
        obtain ⟨y, hy⟩ : ∃ y, tt b m = y := ⟨_, rfl⟩
        have c0 := (hc (m + 1) hlt).1
        have c1 := (hc m (by omega)).2
        rw [hx] at c0
        rw [hy] at c1
        have hf := F5.out (m + 1) (by omega) (by rw [Hbc.out]; exact hlt)
        have hy2 := (Ib.out.at_ (i := m) (by rw [Hbc.out]; omega)).2
        have hx2 := Ib.out.at_ (i := m + 1) (by rw [Hbc.out]; omega)
        have hy1 := Ib.out.at_ (i := m) (by rw [Hbc.out]; omega)
        rw [Nat.add_sub_cancel, hx, hy] at hf
        rw [hx] at hx2
        rw [hy] at hy1
        obtain ⟨q1, q2, q3, _⟩ := hx2
        obtain ⟨q4, q5, q6, _⟩ := hy1
        have q7 := (Ib.out.at_ (i := m) (by rw [Hbc.out]; omega)).1
        have q8 : 0 ≤ y := by omega
        have q9 : x ≤ 65536 := by omega
        have hdec : decide (x - y ≤ day) = false := decide_eq_false (by omega)
        clear hx hy hc hf hy2 q2 q3 q4 q5 q7
        go_wp2
        go_quiet (fail)
        go_wp2
        go_roundw
        case rel => exact ⟨m + 1 + 1, by omega, by go_num, below_drewN HBk.out _⟩
        case measure => simp [intOf]; omega
      · have hlt' : ¬ (k : Int) < (bc : Int) := by omega
        go_wp2
        go_loopw [100] (fun i ws => ∃ j : Nat, j ≤ rc ∧ i = .int .i64 j ∧ Below wr.heap.size wr ws) (fun i _ => rc - (intOf i).toNat)
        case atStart => exact ⟨0, by omega, rfl, Below.refl _ _⟩
        case round =>
          obtain ⟨j, hj, rfl, h⟩ := hrel
          have HBj := hid h
          replace Sa := hid (Sa.out.below h)
          replace Sb := hid (Sb.out.below h)
          replace Sr := hid (Sr.out.below h)
          replace HB := hid (HB.out.trans (h.mono HB.out.size))
          clear h
          by_cases hjr : j < rc
          · obtain ⟨Br, Or, e, hBr, hc⟩ := Sr.out.at_ Hrc.out (by omega)
            subst e
            obtain ⟨x, hx⟩ : ∃ x, fr r j = x := ⟨_, rfl⟩
            obtain ⟨y, hy⟩ : ∃ y, tt r j = y := ⟨_, rfl⟩
            have c0 := (hc j hjr).1
            have c1 := (hc j hjr).2
            obtain ⟨hf, hm1, hm2⟩ := F6.out j (by rw [Hrc.out]; exact hjr)
            have hx2 := Ir.out.at_ (i := j) (by rw [Hrc.out]; exact hjr)
            rw [hx] at c0 hx2 hf hm1
            rw [hy] at c1 hx2 hf hm2
            obtain ⟨q1, q2, q3, _⟩ := hx2
            have hdec : decide (day < y - x) = false := decide_eq_false (by omega)
            have q4 : y ≤ 65536 := q3
            have M1 := hid hm1
            have M2 := hid hm2
            clear hx hy hc hf hm1 hm2 q3
            go_wp2_with fail
            refine (in_eq (l := a) (r := true) (d := x - 1) M1.out Hac.out (by omega) (Sa.out.below ?_)).mono ?_
            · exact (Below.refl _ _).alloc (Nat.le_refl _) _
            rintro e _ ⟨rfl, rfl⟩
            go_wp2_with fail
            refine (in_eq (l := a) (r := true) (d := y) M2.out Hac.out (by omega) (Sa.out.below ?_)).mono ?_
            · exact (Below.refl _ _).alloc (Nat.le_refl _) _
            rintro e _ ⟨rfl, rfl⟩
            go_wp2
            go_roundw
            case rel => exact ⟨j + 1, by omega, by go_num, HBj.out.alloc HBj.out.size _⟩
            case measure => simp [intOf]; omega
          · have hjr' : ¬ (j : Int) < (rc : Int) := by omega
            have F7' := F7.out
            rw [Hac.out, Hbc.out] at F7'
            cases z
            · obtain ⟨p1, p2, e1, e2⟩ : 0 < ac ∧ 0 < bc ∧ fr b 0 = fr a 0 ∧ tt b (bc - 1) = tt a (ac - 1) := by
                rcases F7' with ⟨h1, _⟩ | h
                · have := TA.out; rw [h1] at Hac; rw [Hac.out] at this; cases this
                · exact h
              have ta := TA.out
              rw [Hac.out] at ta
              obtain ⟨m, rfl⟩ : ∃ m, bc = m + 1 := ⟨bc - 1, by omega⟩
              obtain ⟨q, rfl⟩ : ∃ q, ac = q + 1 := ⟨ac - 1, by omega⟩
              obtain ⟨Ba, Oa, e, hBa, hc⟩ := Sa.out.at_ Hac.out (by omega)
              subst e
              obtain ⟨Bb, Ob, e, hBb, hd9⟩ := Sb.out.at_ Hbc.out (by omega)
              subst e
              have c0 := (hc 0 (by omega)).1
              have c1 := (hc q (by omega)).2
              have d0 := (hd9 0 (by omega)).1
              have d1 := (hd9 m (by omega)).2
              rw [e1] at d0
              rw [Nat.add_sub_cancel, Nat.add_sub_cancel] at e2
              rw [e2] at d1
              obtain ⟨x, hx⟩ : ∃ x, fr a 0 = x := ⟨_, rfl⟩
              obtain ⟨y, hy⟩ : ∃ y, tt a q = y := ⟨_, rfl⟩
              rw [hx] at c0 d0
              rw [hy] at c1 d1
              have i1 : decide ((m : Int) < 0) = false := decide_eq_false (by omega)
              have i2 : decide ((q : Int) < 0) = false := decide_eq_false (by omega)
              have i3 : m ≤ 65535 := by omega
              have i4 : q ≤ 59 := by omega
              have i5 : IntKind.i64.wrap (m : Int) = m := by rw [IntKind.wrap_i64]; omega
              have i6 : IntKind.i64.wrap (q : Int) = q := by rw [IntKind.wrap_i64]; omega
              have j1 : (m : Int) < (m : Int) + 1 := by omega
              have j2 : (q : Int) < (q : Int) + 1 := by omega
              have j3 : ¬ ((m : Int) + 1 ≤ (m : Int)) := by omega
              have j4 : ¬ ((q : Int) + 1 ≤ (q : Int)) := by omega
              have j5 : ¬ ((m : Int) < 0) := by omega
              have j6 : ¬ ((q : Int) < 0) := by omega
              have tx : (x == x) = true := by simp
              have ty : (y == y) = true := by simp
              rw [Nat.zero_mul, Nat.add_zero] at c0 d0
              clear hx hy hc hd9 F7' e1 e2
              go_wp2
              go_quiet (fail)
              go_wp2
              go_ret
              exact ⟨rfl, below_drewN HB.out _⟩
            · have ta := TA.out
              rw [Hac.out] at ta
              go_wp2
              go_quiet (fail)
              go_wp2
              go_ret
              exact ⟨rfl, below_drewN HB.out _⟩
end Go.Proofs.Ytpafnakepgjmnaa
