/- The examples of the chapter, computed by the program. Conditions: none. -/
import Derived.Test.YtgnidjhfiagfnaaXc
namespace Go.Proofs.Ytgnidjhfiagfnaa
open Go.RowKit

set_option maxRecDepth 100000 in
set_option maxHeartbeats 2000000 in
theorem awake_any (w : World) : Calls Try.prog 22 #[] w fun e w' => e = .returned (.bool true) ∧ Below w.heap.size w w' := by
  go_enter Try.func22, Try.ntmps22
  go_wp2_with fail
  refine (num_wh (65535) _ (by omega) (by omega)).mono ?_
  rintro e u1a ⟨a1a, rfl, z1a, hb1a⟩
  have ch1 := (Below.refl w.heap.size w).trans (hb1a.mono (Below.refl w.heap.size w).size)
  go_wp2_with fail
  refine (num_wh (1) _ (by omega) (by omega)).mono ?_
  rintro e u1b ⟨a1b, rfl, z1b, hb1b⟩
  have ch2 := ch1.trans (hb1b.mono ch1.size)
  have y1 := z1a.below hb1b
  go_wp2_with fail
  refine (add_z y1 z1b (by unfold Sm; decide) (by unfold Sm; decide) (by unfold Sm; decide)).mono ?_
  rintro e u1c ⟨a1c, rfl, z1c, hb1c⟩
  have ch3 := ch2.trans (hb1c.mono ch2.size)
  replace z1c : WhZ u1c a1c (65536) := z1c
  obtain ⟨n1, A1, c1, Hn1, rfl, hs1⟩ := whz_len z1c
  clear z1a z1b y1
  have al10 : Below u1c.heap.size u1c (u1c.alloc (.cells #[.bool false, .slice A1 n1 c1] 26)) := (Below.refl _ _).alloc (Nat.le_refl _) _
  have N10 : Held (u1c.alloc (.cells #[.bool false, .slice A1 n1 c1] 26)) u1c.heap.size (65536) := Held.new (W := u1c) (z := 65536) z1c
  have ch4 := ch3.trans (al10.mono ch3.size)
  clear al10 z1c
  go_wp2_with fail
  refine (num_wh (7) _ (by omega) (by omega)).mono ?_
  rintro e u2a ⟨a2a, rfl, z2a, hb2a⟩
  have ch5 := ch4.trans (hb2a.mono ch4.size)
  replace N10 := N10.below hb2a
  go_wp2_with fail
  refine (num_wh (-2) _ (by omega) (by omega)).mono ?_
  rintro e u2b ⟨a2b, rfl, z2b, hb2b⟩
  have ch6 := ch5.trans (hb2b.mono ch5.size)
  replace N10 := N10.below hb2b
  have y2 := z2a.below hb2b
  go_wp2_with fail
  refine (divmod_z y2 z2b (by unfold Sm; decide) (by decide) (by decide)).mono ?_
  rintro e u2c ⟨a2c, b2c, rfl, z2c, x2c, hb2c⟩
  have ch7 := ch6.trans (hb2c.mono ch6.size)
  replace N10 := N10.below hb2c
  replace z2c : WhZ u2c a2c (-4) := z2c
  replace x2c : WhZ u2c b2c (-1) := x2c
  obtain ⟨n2, A2, c2, Hn2, rfl, hs2⟩ := whz_len z2c
  obtain ⟨m2, B2, d2, Hm2, rfl, ht2⟩ := whz_len x2c
  clear z2a z2b y2
  have al20 : Below u2c.heap.size u2c (u2c.alloc (.cells #[.bool true, .slice A2 n2 c2] 26)) := (Below.refl _ _).alloc (Nat.le_refl _) _
  have N20 : Held (u2c.alloc (.cells #[.bool true, .slice A2 n2 c2] 26)) u2c.heap.size (-4) := Held.new (W := u2c) (z := -4) z2c
  have ch8 := ch7.trans (al20.mono ch7.size)
  replace N10 := N10.below al20
  have al21 : Below (u2c.alloc (.cells #[.bool true, .slice A2 n2 c2] 26)).heap.size (u2c.alloc (.cells #[.bool true, .slice A2 n2 c2] 26)) ((u2c.alloc (.cells #[.bool true, .slice A2 n2 c2] 26)).alloc (.cells #[.bool true, .slice B2 m2 d2] 26)) := (Below.refl _ _).alloc (Nat.le_refl _) _
  have N21 : Held ((u2c.alloc (.cells #[.bool true, .slice A2 n2 c2] 26)).alloc (.cells #[.bool true, .slice B2 m2 d2] 26)) (u2c.heap.size + 1) (-1) := by
    have hh : Held ((u2c.alloc (.cells #[.bool true, .slice A2 n2 c2] 26)).alloc (.cells #[.bool true, .slice B2 m2 d2] 26)) (u2c.alloc (.cells #[.bool true, .slice A2 n2 c2] 26)).heap.size (-1) := Held.new (W := (u2c.alloc (.cells #[.bool true, .slice A2 n2 c2] 26))) (z := -1) (WhZ.below x2c al20)
    rwa [World.size_alloc] at hh
  have ch9 := ch8.trans (al21.mono ch8.size)
  replace N10 := N10.below al21
  replace N20 := N20.below al21
  clear al20 al21 z2c x2c
  go_wp2_with fail
  refine (num_wh (-7) _ (by omega) (by omega)).mono ?_
  rintro e u3a ⟨a3a, rfl, z3a, hb3a⟩
  have ch10 := ch9.trans (hb3a.mono ch9.size)
  replace N10 := N10.below hb3a
  replace N20 := N20.below hb3a
  replace N21 := N21.below hb3a
  go_wp2_with fail
  refine (num_wh (2) _ (by omega) (by omega)).mono ?_
  rintro e u3b ⟨a3b, rfl, z3b, hb3b⟩
  have ch11 := ch10.trans (hb3b.mono ch10.size)
  replace N10 := N10.below hb3b
  replace N20 := N20.below hb3b
  replace N21 := N21.below hb3b
  have y3 := z3a.below hb3b
  go_wp2_with fail
  refine (divmod_z y3 z3b (by unfold Sm; decide) (by decide) (by decide)).mono ?_
  rintro e u3c ⟨a3c, b3c, rfl, z3c, x3c, hb3c⟩
  have ch12 := ch11.trans (hb3c.mono ch11.size)
  replace N10 := N10.below hb3c
  replace N20 := N20.below hb3c
  replace N21 := N21.below hb3c
  replace z3c : WhZ u3c a3c (-4) := z3c
  replace x3c : WhZ u3c b3c (1) := x3c
  obtain ⟨n3, A3, c3, Hn3, rfl, hs3⟩ := whz_len z3c
  obtain ⟨m3, B3, d3, Hm3, rfl, ht3⟩ := whz_len x3c
  clear z3a z3b y3
  have al30 : Below u3c.heap.size u3c (u3c.alloc (.cells #[.bool true, .slice A3 n3 c3] 26)) := (Below.refl _ _).alloc (Nat.le_refl _) _
  have N30 : Held (u3c.alloc (.cells #[.bool true, .slice A3 n3 c3] 26)) u3c.heap.size (-4) := Held.new (W := u3c) (z := -4) z3c
  have ch13 := ch12.trans (al30.mono ch12.size)
  replace N10 := N10.below al30
  replace N20 := N20.below al30
  replace N21 := N21.below al30
  have al31 : Below (u3c.alloc (.cells #[.bool true, .slice A3 n3 c3] 26)).heap.size (u3c.alloc (.cells #[.bool true, .slice A3 n3 c3] 26)) ((u3c.alloc (.cells #[.bool true, .slice A3 n3 c3] 26)).alloc (.cells #[.bool false, .slice B3 m3 d3] 26)) := (Below.refl _ _).alloc (Nat.le_refl _) _
  have N31 : Held ((u3c.alloc (.cells #[.bool true, .slice A3 n3 c3] 26)).alloc (.cells #[.bool false, .slice B3 m3 d3] 26)) (u3c.heap.size + 1) (1) := by
    have hh : Held ((u3c.alloc (.cells #[.bool true, .slice A3 n3 c3] 26)).alloc (.cells #[.bool false, .slice B3 m3 d3] 26)) (u3c.alloc (.cells #[.bool true, .slice A3 n3 c3] 26)).heap.size (1) := Held.new (W := (u3c.alloc (.cells #[.bool true, .slice A3 n3 c3] 26))) (z := 1) (WhZ.below x3c al30)
    rwa [World.size_alloc] at hh
  have ch14 := ch13.trans (al31.mono ch13.size)
  replace N10 := N10.below al31
  replace N20 := N20.below al31
  replace N21 := N21.below al31
  replace N30 := N30.below al31
  clear al30 al31 z3c x3c
  go_wp2_with fail
  refine (num_wh (-7) _ (by omega) (by omega)).mono ?_
  rintro e u4a ⟨a4a, rfl, z4a, hb4a⟩
  have ch15 := ch14.trans (hb4a.mono ch14.size)
  replace N10 := N10.below hb4a
  replace N20 := N20.below hb4a
  replace N21 := N21.below hb4a
  replace N30 := N30.below hb4a
  replace N31 := N31.below hb4a
  go_wp2_with fail
  refine (num_wh (-2) _ (by omega) (by omega)).mono ?_
  rintro e u4b ⟨a4b, rfl, z4b, hb4b⟩
  have ch16 := ch15.trans (hb4b.mono ch15.size)
  replace N10 := N10.below hb4b
  replace N20 := N20.below hb4b
  replace N21 := N21.below hb4b
  replace N30 := N30.below hb4b
  replace N31 := N31.below hb4b
  have y4 := z4a.below hb4b
  go_wp2_with fail
  refine (divmod_z y4 z4b (by unfold Sm; decide) (by decide) (by decide)).mono ?_
  rintro e u4c ⟨a4c, b4c, rfl, z4c, x4c, hb4c⟩
  have ch17 := ch16.trans (hb4c.mono ch16.size)
  replace N10 := N10.below hb4c
  replace N20 := N20.below hb4c
  replace N21 := N21.below hb4c
  replace N30 := N30.below hb4c
  replace N31 := N31.below hb4c
  replace z4c : WhZ u4c a4c (3) := z4c
  replace x4c : WhZ u4c b4c (-1) := x4c
  obtain ⟨n4, A4, c4, Hn4, rfl, hs4⟩ := whz_len z4c
  obtain ⟨m4, B4, d4, Hm4, rfl, ht4⟩ := whz_len x4c
  clear z4a z4b y4
  have al40 : Below u4c.heap.size u4c (u4c.alloc (.cells #[.bool false, .slice A4 n4 c4] 26)) := (Below.refl _ _).alloc (Nat.le_refl _) _
  have N40 : Held (u4c.alloc (.cells #[.bool false, .slice A4 n4 c4] 26)) u4c.heap.size (3) := Held.new (W := u4c) (z := 3) z4c
  have ch18 := ch17.trans (al40.mono ch17.size)
  replace N10 := N10.below al40
  replace N20 := N20.below al40
  replace N21 := N21.below al40
  replace N30 := N30.below al40
  replace N31 := N31.below al40
  have al41 : Below (u4c.alloc (.cells #[.bool false, .slice A4 n4 c4] 26)).heap.size (u4c.alloc (.cells #[.bool false, .slice A4 n4 c4] 26)) ((u4c.alloc (.cells #[.bool false, .slice A4 n4 c4] 26)).alloc (.cells #[.bool true, .slice B4 m4 d4] 26)) := (Below.refl _ _).alloc (Nat.le_refl _) _
  have N41 : Held ((u4c.alloc (.cells #[.bool false, .slice A4 n4 c4] 26)).alloc (.cells #[.bool true, .slice B4 m4 d4] 26)) (u4c.heap.size + 1) (-1) := by
    have hh : Held ((u4c.alloc (.cells #[.bool false, .slice A4 n4 c4] 26)).alloc (.cells #[.bool true, .slice B4 m4 d4] 26)) (u4c.alloc (.cells #[.bool false, .slice A4 n4 c4] 26)).heap.size (-1) := Held.new (W := (u4c.alloc (.cells #[.bool false, .slice A4 n4 c4] 26))) (z := -1) (WhZ.below x4c al40)
    rwa [World.size_alloc] at hh
  have ch19 := ch18.trans (al41.mono ch18.size)
  replace N10 := N10.below al41
  replace N20 := N20.below al41
  replace N21 := N21.below al41
  replace N30 := N30.below al41
  replace N31 := N31.below al41
  replace N40 := N40.below al41
  clear al40 al41 z4c x4c
  go_wp2_with fail
  refine (num_wh (-12) _ (by omega) (by omega)).mono ?_
  rintro e u5a ⟨a5a, rfl, z5a, hb5a⟩
  have ch20 := ch19.trans (hb5a.mono ch19.size)
  replace N10 := N10.below hb5a
  replace N20 := N20.below hb5a
  replace N21 := N21.below hb5a
  replace N30 := N30.below hb5a
  replace N31 := N31.below hb5a
  replace N40 := N40.below hb5a
  replace N41 := N41.below hb5a
  go_wp2_with fail
  refine (num_wh (18) _ (by omega) (by omega)).mono ?_
  rintro e u5b ⟨a5b, rfl, z5b, hb5b⟩
  have ch21 := ch20.trans (hb5b.mono ch20.size)
  replace N10 := N10.below hb5b
  replace N20 := N20.below hb5b
  replace N21 := N21.below hb5b
  replace N30 := N30.below hb5b
  replace N31 := N31.below hb5b
  replace N40 := N40.below hb5b
  replace N41 := N41.below hb5b
  have y5 := z5a.below hb5b
  go_wp2_with fail
  refine (gcd_z y5 z5b (by unfold Sm; decide) (by unfold Sm; decide) (by unfold Sm; decide)).mono ?_
  rintro e u5c ⟨a5c, rfl, z5c, hb5c⟩
  have ch22 := ch21.trans (hb5c.mono ch21.size)
  replace N10 := N10.below hb5c
  replace N20 := N20.below hb5c
  replace N21 := N21.below hb5c
  replace N30 := N30.below hb5c
  replace N31 := N31.below hb5c
  replace N40 := N40.below hb5c
  replace N41 := N41.below hb5c
  replace z5c : WhZ u5c a5c (6) := z5c
  obtain ⟨n5, A5, c5, Hn5, rfl, hs5⟩ := whz_len z5c
  clear z5a z5b y5
  have al50 : Below u5c.heap.size u5c (u5c.alloc (.cells #[.bool false, .slice A5 n5 c5] 26)) := (Below.refl _ _).alloc (Nat.le_refl _) _
  have N50 : Held (u5c.alloc (.cells #[.bool false, .slice A5 n5 c5] 26)) u5c.heap.size (6) := Held.new (W := u5c) (z := 6) z5c
  have ch23 := ch22.trans (al50.mono ch22.size)
  replace N10 := N10.below al50
  replace N20 := N20.below al50
  replace N21 := N21.below al50
  replace N30 := N30.below al50
  replace N31 := N31.below al50
  replace N40 := N40.below al50
  replace N41 := N41.below al50
  clear al50 z5c
  go_wp2_with fail
  refine (num_wh (-10) _ (by omega) (by omega)).mono ?_
  rintro e u6a ⟨a6a, rfl, z6a, hb6a⟩
  have ch24 := ch23.trans (hb6a.mono ch23.size)
  replace N10 := N10.below hb6a
  replace N20 := N20.below hb6a
  replace N21 := N21.below hb6a
  replace N30 := N30.below hb6a
  replace N31 := N31.below hb6a
  replace N40 := N40.below hb6a
  replace N41 := N41.below hb6a
  replace N50 := N50.below hb6a
  go_wp2_with fail
  refine (text_m10 z6a).mono ?_
  rintro e u6c ⟨rfl, hb6c⟩
  have ch25 := ch24.trans (hb6c.mono ch24.size)
  replace N10 := N10.below hb6c
  replace N20 := N20.below hb6c
  replace N21 := N21.below hb6c
  replace N30 := N30.below hb6c
  replace N31 := N31.below hb6c
  replace N40 := N40.below hb6c
  replace N41 := N41.below hb6c
  replace N50 := N50.below hb6c
  clear z6a
  go_wp2_with fail
  refine (parse_007 _).mono ?_
  rintro e u7c ⟨a7c, rfl, z7c, hb7c⟩
  have ch26 := ch25.trans (hb7c.mono ch25.size)
  replace N10 := N10.below hb7c
  replace N20 := N20.below hb7c
  replace N21 := N21.below hb7c
  replace N30 := N30.below hb7c
  replace N31 := N31.below hb7c
  replace N40 := N40.below hb7c
  replace N41 := N41.below hb7c
  replace N50 := N50.below hb7c
  obtain ⟨n7, A7, c7, Hn7, rfl, hs7⟩ := whz_len z7c
  clear z7c
  have al7 : Below u7c.heap.size u7c (u7c.alloc (.cells #[.bool false, .slice A7 n7 c7] 26)) := (Below.refl _ _).alloc (Nat.le_refl _) _
  have ch27 := ch26.trans (al7.mono ch26.size)
  replace N10 := N10.below al7
  replace N20 := N20.below al7
  replace N21 := N21.below al7
  replace N30 := N30.below al7
  replace N31 := N31.below al7
  replace N40 := N40.below al7
  replace N41 := N41.below al7
  replace N50 := N50.below al7
  go_wp2_with fail
  refine (num_wh (1) _ (by omega) (by omega)).mono ?_
  rintro e u8b ⟨a8b, rfl, z8b, hb8b⟩
  have ch28 := ch27.trans (hb8b.mono ch27.size)
  replace N10 := N10.below hb8b
  replace N20 := N20.below hb8b
  replace N21 := N21.below hb8b
  replace N30 := N30.below hb8b
  replace N31 := N31.below hb8b
  replace N40 := N40.below hb8b
  replace N41 := N41.below hb8b
  replace N50 := N50.below hb8b
  have wi8 : Wh u8b (.agg #[.bool true, .slice none 0 0]) true [] := ⟨none, 0, rfl, Sl.nil _⟩
  go_wp2_with fail
  refine (add_inv wi8 z8b (by simp [validB])).mono ?_
  rintro e u8c ⟨a8c, rfl, z8c, hb8c⟩
  have ch29 := ch28.trans (hb8c.mono ch28.size)
  replace N10 := N10.below hb8c
  replace N20 := N20.below hb8c
  replace N21 := N21.below hb8c
  replace N30 := N30.below hb8c
  replace N31 := N31.below hb8c
  replace N40 := N40.below hb8c
  replace N41 := N41.below hb8c
  replace N50 := N50.below hb8c
  obtain ⟨n8, A8, c8, Hn8, rfl, hs8⟩ := whz_len z8c
  clear z8c z8b wi8
  have al8 : Below u8c.heap.size u8c (u8c.alloc (.cells #[.bool false, .slice A8 n8 c8] 26)) := (Below.refl _ _).alloc (Nat.le_refl _) _
  have ch30 := ch29.trans (al8.mono ch29.size)
  replace N10 := N10.below al8
  replace N20 := N20.below al8
  replace N21 := N21.below al8
  replace N30 := N30.below al8
  replace N31 := N31.below al8
  replace N40 := N40.below al8
  replace N41 := N41.below al8
  replace N50 := N50.below al8
  go_wp2_with fail
  refine (num_wh (-65537) _ (by omega) (by omega)).mono ?_
  rintro e u9z ⟨a9z, rfl, z9z, hb9z⟩
  have ch31 := ch30.trans (hb9z.mono ch30.size)
  replace N10 := N10.below hb9z
  replace N20 := N20.below hb9z
  replace N21 := N21.below hb9z
  replace N30 := N30.below hb9z
  replace N31 := N31.below hb9z
  replace N40 := N40.below hb9z
  replace N41 := N41.below hb9z
  replace N50 := N50.below hb9z
  go_wp2_with fail
  refine (is_whz z9z (by omega) (by omega) rfl).mono ?_
  rintro e u9z2 ⟨rfl, hb9z2⟩
  have ch32 := ch31.trans (hb9z2.mono ch31.size)
  replace N10 := N10.below hb9z2
  replace N20 := N20.below hb9z2
  replace N21 := N21.below hb9z2
  replace N30 := N30.below hb9z2
  replace N31 := N31.below hb9z2
  replace N40 := N40.below hb9z2
  replace N41 := N41.below hb9z2
  replace N50 := N50.below hb9z2
  obtain ⟨P0, p0, q0, bk0, zz0⟩ := N10
  have cA0 := (bk0.cell 0).trans (b := some (Value.bool false)) rfl
  have cB0 := (bk0.cell 1).trans (b := some (Value.slice P0 p0 q0)) rfl
  go_wp2_with fail
  refine (is_whz zz0 (by omega) (by omega) rfl).mono ?_
  rintro e t0 ⟨rfl, hi0⟩
  have ch33 := ch32.trans (hi0.mono ch32.size)
  replace N20 := N20.below hi0
  replace N21 := N21.below hi0
  replace N30 := N30.below hi0
  replace N31 := N31.below hi0
  replace N40 := N40.below hi0
  replace N41 := N41.below hi0
  replace N50 := N50.below hi0
  clear cA0 cB0 bk0 zz0
  obtain ⟨P1, p1, q1, bk1, zz1⟩ := N20
  have cA1 := (bk1.cell 0).trans (b := some (Value.bool true)) rfl
  have cB1 := (bk1.cell 1).trans (b := some (Value.slice P1 p1 q1)) rfl
  go_wp2_with fail
  refine (is_whz zz1 (by omega) (by omega) rfl).mono ?_
  rintro e t1 ⟨rfl, hi1⟩
  have ch34 := ch33.trans (hi1.mono ch33.size)
  replace N21 := N21.below hi1
  replace N30 := N30.below hi1
  replace N31 := N31.below hi1
  replace N40 := N40.below hi1
  replace N41 := N41.below hi1
  replace N50 := N50.below hi1
  clear cA1 cB1 bk1 zz1
  obtain ⟨P2, p2, q2, bk2, zz2⟩ := N21
  have cA2 := (bk2.cell 0).trans (b := some (Value.bool true)) rfl
  have cB2 := (bk2.cell 1).trans (b := some (Value.slice P2 p2 q2)) rfl
  go_wp2_with fail
  refine (is_whz zz2 (by omega) (by omega) rfl).mono ?_
  rintro e t2 ⟨rfl, hi2⟩
  have ch35 := ch34.trans (hi2.mono ch34.size)
  replace N30 := N30.below hi2
  replace N31 := N31.below hi2
  replace N40 := N40.below hi2
  replace N41 := N41.below hi2
  replace N50 := N50.below hi2
  clear cA2 cB2 bk2 zz2
  obtain ⟨P3, p3, q3, bk3, zz3⟩ := N30
  have cA3 := (bk3.cell 0).trans (b := some (Value.bool true)) rfl
  have cB3 := (bk3.cell 1).trans (b := some (Value.slice P3 p3 q3)) rfl
  go_wp2_with fail
  refine (is_whz zz3 (by omega) (by omega) rfl).mono ?_
  rintro e t3 ⟨rfl, hi3⟩
  have ch36 := ch35.trans (hi3.mono ch35.size)
  replace N31 := N31.below hi3
  replace N40 := N40.below hi3
  replace N41 := N41.below hi3
  replace N50 := N50.below hi3
  clear cA3 cB3 bk3 zz3
  obtain ⟨P4, p4, q4, bk4, zz4⟩ := N31
  have cA4 := (bk4.cell 0).trans (b := some (Value.bool false)) rfl
  have cB4 := (bk4.cell 1).trans (b := some (Value.slice P4 p4 q4)) rfl
  go_wp2_with fail
  refine (is_whz zz4 (by omega) (by omega) rfl).mono ?_
  rintro e t4 ⟨rfl, hi4⟩
  have ch37 := ch36.trans (hi4.mono ch36.size)
  replace N40 := N40.below hi4
  replace N41 := N41.below hi4
  replace N50 := N50.below hi4
  clear cA4 cB4 bk4 zz4
  obtain ⟨P5, p5, q5, bk5, zz5⟩ := N40
  have cA5 := (bk5.cell 0).trans (b := some (Value.bool false)) rfl
  have cB5 := (bk5.cell 1).trans (b := some (Value.slice P5 p5 q5)) rfl
  go_wp2_with fail
  refine (is_whz zz5 (by omega) (by omega) rfl).mono ?_
  rintro e t5 ⟨rfl, hi5⟩
  have ch38 := ch37.trans (hi5.mono ch37.size)
  replace N41 := N41.below hi5
  replace N50 := N50.below hi5
  clear cA5 cB5 bk5 zz5
  obtain ⟨P6, p6, q6, bk6, zz6⟩ := N41
  have cA6 := (bk6.cell 0).trans (b := some (Value.bool true)) rfl
  have cB6 := (bk6.cell 1).trans (b := some (Value.slice P6 p6 q6)) rfl
  go_wp2_with fail
  refine (is_whz zz6 (by omega) (by omega) rfl).mono ?_
  rintro e t6 ⟨rfl, hi6⟩
  have ch39 := ch38.trans (hi6.mono ch38.size)
  replace N50 := N50.below hi6
  clear cA6 cB6 bk6 zz6
  obtain ⟨P7, p7, q7, bk7, zz7⟩ := N50
  have cA7 := (bk7.cell 0).trans (b := some (Value.bool false)) rfl
  have cB7 := (bk7.cell 1).trans (b := some (Value.slice P7 p7 q7)) rfl
  go_wp2_with fail
  refine (is_whz zz7 (by omega) (by omega) rfl).mono ?_
  rintro e t7 ⟨rfl, hi7⟩
  have ch40 := ch39.trans (hi7.mono ch39.size)
  clear cA7 cB7 bk7 zz7
  go_wp2
  go_ret
  exact ⟨rfl, ch40⟩
end Go.Proofs.Ytgnidjhfiagfnaa
