/- WholeOrder's function returns true. Conditions: the numbers lie in memory. -/
import Derived.Test.YtgnidjhfiagfnaaXm
import Derived.Deep.RegionHeld3
namespace Go.Proofs.Ytgnidjhfiagfnaa
open Go.RowKit

theorem wh_of_sl {w : World} {x : Bool} {l : List Nat} {A : Option Addr} {n c : Nat} (h : Sl w (.slice A n c) l) (hn : Hid (l.length = n)) : Wh w (.agg #[.bool x, .slice A n c]) x l := by
  have e := hn.out
  subst e
  exact ⟨A, c, rfl, h⟩

theorem cmpZ_lt {y z : Int} (h : y < z) : cmpZ y z = -1 := by unfold cmpZ; rw [if_pos h]
theorem cmpZ_gt {y z : Int} (h : z < y) : cmpZ y z = 1 := by unfold cmpZ; rw [if_neg (by omega), if_pos h]
theorem cmpZ_eq {y z : Int} (h : y = z) : cmpZ y z = 0 := by unfold cmpZ; rw [if_neg (by omega), if_neg (by omega)]
theorem cmpZ_cases (y z : Int) : cmpZ y z = -1 ∨ cmpZ y z = 0 ∨ cmpZ y z = 1 := by
  unfold cmpZ
  repeat' split
  all_goals omega
theorem cmpZ_trans {x y z o : Int} (h : cmpZ x y = o) (h' : cmpZ y z = o) : cmpZ x z = o := by
  unfold cmpZ at *
  repeat' split
  all_goals repeat' split at h
  all_goals repeat' split at h'
  all_goals omega

set_option maxRecDepth 100000 in
set_option maxHeartbeats 2000000 in
theorem order_not {x y z : Bool} {la lb lc : List Nat} {A B C : Option Addr} {na ca nb cb nc cc : Nat} {w : World} (sa : Sl w (.slice A na ca) la) (hna : Hid (la.length = na)) (sb : Sl w (.slice B nb cb) lb) (hnb : Hid (lb.length = nb)) (sc : Sl w (.slice C nc cc) lc) (hnc : Hid (lc.length = nc)) (hu : (uB 200 x la && uB 200 y lb && uB 200 z lc) = false) :
  Calls Try.prog 7 #[.agg #[.bool x, .slice A na ca], .agg #[.bool y, .slice B nb cb], .agg #[.bool z, .slice C nc cc]] w fun e w' => e = .returned (.bool true) ∧ Below w.heap.size w w' := by
  have b0 : Blk (((w.alloc (.cells #[.bool x, .slice A na ca] 26)).alloc (.cells #[.bool y, .slice B nb cb] 26)).alloc (.cells #[.bool z, .slice C nc cc] 26)) w.heap.size 26 #[.bool x, .slice A na ca] := by
    have := (((Blk.new w 26 #[.bool x, .slice A na ca]).alloc (.cells #[.bool y, .slice B nb cb] 26)).alloc (.cells #[.bool z, .slice C nc cc] 26))
    exact this
  have b1 : Blk (((w.alloc (.cells #[.bool x, .slice A na ca] 26)).alloc (.cells #[.bool y, .slice B nb cb] 26)).alloc (.cells #[.bool z, .slice C nc cc] 26)) (w.heap.size + 1) 26 #[.bool y, .slice B nb cb] := by
    have := ((Blk.new (w.alloc (.cells #[.bool x, .slice A na ca] 26)) 26 #[.bool y, .slice B nb cb]).alloc (.cells #[.bool z, .slice C nc cc] 26))
    rwa [World.size_alloc] at this
  have b2 : Blk (((w.alloc (.cells #[.bool x, .slice A na ca] 26)).alloc (.cells #[.bool y, .slice B nb cb] 26)).alloc (.cells #[.bool z, .slice C nc cc] 26)) (w.heap.size + 2) 26 #[.bool z, .slice C nc cc] := by
    have := (Blk.new ((w.alloc (.cells #[.bool x, .slice A na ca] 26)).alloc (.cells #[.bool y, .slice B nb cb] 26)) 26 #[.bool z, .slice C nc cc])
    rwa [World.size_alloc, World.size_alloc] at this
  have bw : Below w.heap.size w (((w.alloc (.cells #[.bool x, .slice A na ca] 26)).alloc (.cells #[.bool y, .slice B nb cb] 26)).alloc (.cells #[.bool z, .slice C nc cc] 26)) := (by repeat (first | exact Below.refl _ _ | assumption | refine Below.alloc ?_ (by first | (simp; done) | (simp; omega) | omega) _ | refine Below.setCell ?_ (by first | (simp; done) | (simp; omega) | omega) _ | refine Below.drew ?_))
  replace sa := sa.below bw
  replace sb := sb.below bw
  replace sc := sc.below bw
  go_enter Try.func7, Try.ntmps7
  go_wp2_with fail
  refine (awake_any _).mono ?_
  rintro e u1 ⟨rfl, h1⟩
  have ch1 := bw.trans (h1.mono bw.size)
  replace b0 := b0.below h1 b0.lt
  replace b1 := b1.below h1 b1.lt
  replace b2 := b2.below h1 b2.lt
  replace sa := sa.below h1
  replace sb := sb.below h1
  replace sc := sc.below h1
  have c0b0 := (b0.cell 0).trans (b := some (Value.bool x)) rfl
  have c1b0 := (b0.cell 1).trans (b := some (Value.slice A na ca)) rfl
  have c0b1 := (b1.cell 0).trans (b := some (Value.bool y)) rfl
  have c1b1 := (b1.cell 1).trans (b := some (Value.slice B nb cb)) rfl
  have c0b2 := (b2.cell 0).trans (b := some (Value.bool z)) rfl
  have c1b2 := (b2.cell 1).trans (b := some (Value.slice C nc cc)) rfl
  have al : Below u1.heap.size u1 (u1.alloc (.cells #[.bool x, .slice A na ca, .bool y, .slice B nb cb, .bool z, .slice C nc cc] 26)) := (Below.refl _ _).alloc (Nat.le_refl _) _
  have bk : Blk (u1.alloc (.cells #[.bool x, .slice A na ca, .bool y, .slice B nb cb, .bool z, .slice C nc cc] 26)) u1.heap.size 26 #[.bool x, .slice A na ca, .bool y, .slice B nb cb, .bool z, .slice C nc cc] := Blk.new _ _ _
  go_wp2_with fail
  clear c0b0 c1b0 c0b1 c1b1 c0b2 c1b2
  have ch2 := ch1.trans (al.mono ch1.size)
  replace b0 := b0.below al b0.lt
  replace b1 := b1.below al b1.lt
  replace b2 := b2.below al b2.lt
  replace sa := sa.below al
  replace sb := sb.below al
  replace sc := sc.below al
  refine (usable3 (most := 200) (by omega) sa hna sb hnb sc hnc bk).mono ?_
  rintro e u2 ⟨rfl, h2⟩
  rw [hu]
  clear bk al
  have ch3 := ch2.trans (h2.mono ch2.size)
  replace b0 := b0.below h2 b0.lt
  replace b1 := b1.below h2 b1.lt
  replace b2 := b2.below h2 b2.lt
  replace sa := sa.below h2
  replace sb := sb.below h2
  replace sc := sc.below h2
  go_wp2
  go_ret
  exact ⟨rfl, ch3⟩

set_option maxRecDepth 100000 in
set_option maxHeartbeats 2000000 in
theorem order_lt {x y z : Bool} {la lb lc : List Nat} {A B C : Option Addr} {na ca nb cb nc cc : Nat} {w : World} (sa : Sl w (.slice A na ca) la) (hna : Hid (la.length = na)) (sb : Sl w (.slice B nb cb) lb) (hnb : Hid (lb.length = nb)) (sc : Sl w (.slice C nc cc) lc) (hnc : Hid (lc.length = nc)) (hu0 : uB 200 x la = true) (hu1 : uB 200 y lb = true) (hu2 : uB 200 z lc = true) (hrel : zv x la < zv y lb) :
  Calls Try.prog 7 #[.agg #[.bool x, .slice A na ca], .agg #[.bool y, .slice B nb cb], .agg #[.bool z, .slice C nc cc]] w fun e w' => e = .returned (.bool true) ∧ Below w.heap.size w w' := by
  have b0 : Blk (((w.alloc (.cells #[.bool x, .slice A na ca] 26)).alloc (.cells #[.bool y, .slice B nb cb] 26)).alloc (.cells #[.bool z, .slice C nc cc] 26)) w.heap.size 26 #[.bool x, .slice A na ca] := by
    have := (((Blk.new w 26 #[.bool x, .slice A na ca]).alloc (.cells #[.bool y, .slice B nb cb] 26)).alloc (.cells #[.bool z, .slice C nc cc] 26))
    exact this
  have b1 : Blk (((w.alloc (.cells #[.bool x, .slice A na ca] 26)).alloc (.cells #[.bool y, .slice B nb cb] 26)).alloc (.cells #[.bool z, .slice C nc cc] 26)) (w.heap.size + 1) 26 #[.bool y, .slice B nb cb] := by
    have := ((Blk.new (w.alloc (.cells #[.bool x, .slice A na ca] 26)) 26 #[.bool y, .slice B nb cb]).alloc (.cells #[.bool z, .slice C nc cc] 26))
    rwa [World.size_alloc] at this
  have b2 : Blk (((w.alloc (.cells #[.bool x, .slice A na ca] 26)).alloc (.cells #[.bool y, .slice B nb cb] 26)).alloc (.cells #[.bool z, .slice C nc cc] 26)) (w.heap.size + 2) 26 #[.bool z, .slice C nc cc] := by
    have := (Blk.new ((w.alloc (.cells #[.bool x, .slice A na ca] 26)).alloc (.cells #[.bool y, .slice B nb cb] 26)) 26 #[.bool z, .slice C nc cc])
    rwa [World.size_alloc, World.size_alloc] at this
  have bw : Below w.heap.size w (((w.alloc (.cells #[.bool x, .slice A na ca] 26)).alloc (.cells #[.bool y, .slice B nb cb] 26)).alloc (.cells #[.bool z, .slice C nc cc] 26)) := (by repeat (first | exact Below.refl _ _ | assumption | refine Below.alloc ?_ (by first | (simp; done) | (simp; omega) | omega) _ | refine Below.setCell ?_ (by first | (simp; done) | (simp; omega) | omega) _ | refine Below.drew ?_))
  replace sa := sa.below bw
  replace sb := sb.below bw
  replace sc := sc.below bw
  have hu : (uB 200 x la && uB 200 y lb && uB 200 z lc) = true := by rw [hu0, hu1, hu2]; rfl
  go_enter Try.func7, Try.ntmps7
  go_wp2_with fail
  refine (awake_any _).mono ?_
  rintro e u1 ⟨rfl, h1⟩
  have ch1 := bw.trans (h1.mono bw.size)
  replace b0 := b0.below h1 b0.lt
  replace b1 := b1.below h1 b1.lt
  replace b2 := b2.below h1 b2.lt
  replace sa := sa.below h1
  replace sb := sb.below h1
  replace sc := sc.below h1
  have c0b0 := (b0.cell 0).trans (b := some (Value.bool x)) rfl
  have c1b0 := (b0.cell 1).trans (b := some (Value.slice A na ca)) rfl
  have c0b1 := (b1.cell 0).trans (b := some (Value.bool y)) rfl
  have c1b1 := (b1.cell 1).trans (b := some (Value.slice B nb cb)) rfl
  have c0b2 := (b2.cell 0).trans (b := some (Value.bool z)) rfl
  have c1b2 := (b2.cell 1).trans (b := some (Value.slice C nc cc)) rfl
  have al : Below u1.heap.size u1 (u1.alloc (.cells #[.bool x, .slice A na ca, .bool y, .slice B nb cb, .bool z, .slice C nc cc] 26)) := (Below.refl _ _).alloc (Nat.le_refl _) _
  have bk : Blk (u1.alloc (.cells #[.bool x, .slice A na ca, .bool y, .slice B nb cb, .bool z, .slice C nc cc] 26)) u1.heap.size 26 #[.bool x, .slice A na ca, .bool y, .slice B nb cb, .bool z, .slice C nc cc] := Blk.new _ _ _
  go_wp2_with fail
  clear c0b0 c1b0 c0b1 c1b1 c0b2 c1b2
  have ch2 := ch1.trans (al.mono ch1.size)
  replace b0 := b0.below al b0.lt
  replace b1 := b1.below al b1.lt
  replace b2 := b2.below al b2.lt
  replace sa := sa.below al
  replace sb := sb.below al
  replace sc := sc.below al
  refine (usable3 (most := 200) (by omega) sa hna sb hnb sc hnc bk).mono ?_
  rintro e u2 ⟨rfl, h2⟩
  rw [hu]
  clear bk al
  have ch3 := ch2.trans (h2.mono ch2.size)
  replace b0 := b0.below h2 b0.lt
  replace b1 := b1.below h2 b1.lt
  replace b2 := b2.below h2 b2.lt
  replace sa := sa.below h2
  replace sb := sb.below h2
  replace sc := sc.below h2
  have hz0 := uB_lz (wh_of_sl (x := x) sa hna) hu0
  obtain ⟨p, hp⟩ : ∃ p, zv x la = p := ⟨_, rfl⟩
  rw [hp] at hz0
  have zp := hz0.2.1
  have lp := hz0.2.2
  have hz1 := uB_lz (wh_of_sl (x := y) sb hnb) hu1
  obtain ⟨q, hq⟩ : ∃ q, zv y lb = q := ⟨_, rfl⟩
  rw [hq] at hz1
  have zq := hz1.2.1
  have lq := hz1.2.2
  have hz2 := uB_lz (wh_of_sl (x := z) sc hnc) hu2
  obtain ⟨t, ht⟩ : ∃ t, zv z lc = t := ⟨_, rfl⟩
  rw [ht] at hz2
  have zt := hz2.2.1
  have lt := hz2.2.2
  rw [hp, hq] at hrel
  clear sa sb sc hna hnb hnc hu hu0 hu1 hu2 hz0 hz1 hz2 hp hq ht
  have o1 : Hid (cmpZ p q = -1) := cmpZ_lt (by omega)
  have o2 : Hid (cmpZ q p = 1) := cmpZ_gt (by omega)
  have o3 : Hid (decide (p = q) = false) := by show _ = _; simp; omega
  have o4 : Hid (cmpZ (p - q) 0 = -1) := cmpZ_lt (by omega)
  have o5 : Hid (cmpZ (p + t) (q + t) = -1) := cmpZ_lt (by omega)
  have o6 : Hid (cmpZ (p * -1) (q * -1) = 1) := cmpZ_gt (by omega)
  have o7 : Hid (cmpZ q t = -1 → cmpZ p t = -1) := fun h => cmpZ_trans o1.out h
  have kp := lp.mono (k := 1024) (by omega)
  have kq := lq.mono (k := 1024) (by omega)
  have kt := lt.mono (k := 1024) (by omega)
  have k1 := (lp.sub lq).mono (k := 1024) (by omega)
  have k2 := (lp.add lt).mono (k := 1024) (by omega)
  have k3 := (lq.add lt).mono (k := 1024) (by omega)
  have k0 : Lz 1024 0 := (lz_one (by decide)).mono (by omega)
  have km : Lz 1 (-1) := lz_one (by decide)
  have k4 := (lp.mul km).mono (k := 1024) (by omega)
  have k5 := (lq.mul km).mono (k := 1024) (by omega)
  have kn := km.mono (k := 1024) (by omega)
  clear hrel
  have ew1 : IntKind.i64.wrap 1 = 1 := by decide
  have ew2 : IntKind.i64.wrap (-1) = -1 := by decide
  have ew3 : IntKind.i64.wrap 0 = 0 := by decide
  have c0b0 := (b0.cell 0).trans (b := some (Value.bool x)) rfl
  have c1b0 := (b0.cell 1).trans (b := some (Value.slice A na ca)) rfl
  have c0b1 := (b1.cell 0).trans (b := some (Value.bool y)) rfl
  have c1b1 := (b1.cell 1).trans (b := some (Value.slice B nb cb)) rfl
  have c0b2 := (b2.cell 0).trans (b := some (Value.bool z)) rfl
  have c1b2 := (b2.cell 1).trans (b := some (Value.slice C nc cc)) rfl
  go_wp2_with fail
  refine (cmp_l zp zq kp kq o1.out).mono ?_
  rintro e u3 ⟨rfl, h3⟩
  clear c0b0 c1b0 c0b1 c1b1 c0b2 c1b2
  have ch4 := ch3.trans (h3.mono ch3.size)
  replace b0 := b0.below h3 b0.lt
  replace b1 := b1.below h3 b1.lt
  replace b2 := b2.below h3 b2.lt
  replace zp := zp.below h3
  replace zq := zq.below h3
  replace zt := zt.below h3
  go_wp2
  have b0_4_0 := b0.drew
  have b1_4_0 := b1.drew
  have b2_4_0 := b2.drew
  have zp_4_0 := whz_drew zp
  have zq_4_0 := whz_drew zq
  have zt_4_0 := whz_drew zt
  have ch_4_0 := ch4.drew
  have kk_4_0 := cells6 b0_4_0 b1_4_0 b2_4_0
  go_region_held3 (fun w' => w'.cell? ⟨w.heap.size, 0, none⟩ = some (.bool x) ∧ w'.cell? ⟨w.heap.size, 1, none⟩ = some (.slice A na ca) ∧ w'.cell? ⟨(w.heap.size + 1), 0, none⟩ = some (.bool y) ∧ w'.cell? ⟨(w.heap.size + 1), 1, none⟩ = some (.slice B nb cb) ∧ w'.cell? ⟨(w.heap.size + 2), 0, none⟩ = some (.bool z) ∧ w'.cell? ⟨(w.heap.size + 2), 1, none⟩ = some (.slice C nc cc))
    (first | (with_reducible exact kk_4_8) | (with_reducible exact kk_4_7) | (with_reducible exact kk_4_6) | (with_reducible exact kk_4_5) | (with_reducible exact kk_4_4) | (with_reducible exact kk_4_3) | (with_reducible exact kk_4_2) | (with_reducible exact kk_4_1) | (with_reducible exact kk_4_0))
    (first | (have _guard := kk_4_7; clear _guard; go_at_call 33; refine (cmp_l ze_4_7 zf_4_7 k2 k3 o5.out).mono ?_; rintro e w_4_8 ⟨rfl, hb_4_8⟩; have b0_4_8 := b0_4_7.below hb_4_8 b0_4_7.lt; have b1_4_8 := b1_4_7.below hb_4_8 b1_4_7.lt; have b2_4_8 := b2_4_7.below hb_4_8 b2_4_7.lt; have zp_4_8 := zp_4_7.below hb_4_8; have zq_4_8 := zq_4_7.below hb_4_8; have zt_4_8 := zt_4_7.below hb_4_8; have zd_4_8 := zd_4_7.below hb_4_8; have zo_4_8 := zo_4_7.below hb_4_8; have ze_4_8 := ze_4_7.below hb_4_8; have zf_4_8 := zf_4_7.below hb_4_8; have ch_4_8 := ch_4_7.trans (hb_4_8.mono ch_4_7.size); have kk_4_8 := cells6 b0_4_8 b1_4_8 b2_4_8) | (have _guard := kk_4_6; clear _guard; go_at_call 31; refine (sumv zq_4_6 zt_4_6 kq kt k3).mono ?_; rintro e w_4_7 ⟨vzf, rfl, zf_4_7, hb_4_7⟩; have b0_4_7 := b0_4_6.below hb_4_7 b0_4_6.lt; have b1_4_7 := b1_4_6.below hb_4_7 b1_4_6.lt; have b2_4_7 := b2_4_6.below hb_4_7 b2_4_6.lt; have zp_4_7 := zp_4_6.below hb_4_7; have zq_4_7 := zq_4_6.below hb_4_7; have zt_4_7 := zt_4_6.below hb_4_7; have zd_4_7 := zd_4_6.below hb_4_7; have zo_4_7 := zo_4_6.below hb_4_7; have ze_4_7 := ze_4_6.below hb_4_7; have ch_4_7 := ch_4_6.trans (hb_4_7.mono ch_4_6.size); have kk_4_7 := cells6 b0_4_7 b1_4_7 b2_4_7) | (have _guard := kk_4_5; clear _guard; go_at_call 31; refine (sumv zp_4_5 zt_4_5 kp kt k2).mono ?_; rintro e w_4_6 ⟨vze, rfl, ze_4_6, hb_4_6⟩; have b0_4_6 := b0_4_5.below hb_4_6 b0_4_5.lt; have b1_4_6 := b1_4_5.below hb_4_6 b1_4_5.lt; have b2_4_6 := b2_4_5.below hb_4_6 b2_4_5.lt; have zp_4_6 := zp_4_5.below hb_4_6; have zq_4_6 := zq_4_5.below hb_4_6; have zt_4_6 := zt_4_5.below hb_4_6; have zd_4_6 := zd_4_5.below hb_4_6; have zo_4_6 := zo_4_5.below hb_4_6; have ch_4_6 := ch_4_5.trans (hb_4_6.mono ch_4_5.size); have kk_4_6 := cells6 b0_4_6 b1_4_6 b2_4_6) | (have _guard := kk_4_4; clear _guard; go_at_call 33; refine (cmp_l zd_4_4 zo_4_4 k1 k0 o4.out).mono ?_; rintro e w_4_5 ⟨rfl, hb_4_5⟩; have b0_4_5 := b0_4_4.below hb_4_5 b0_4_4.lt; have b1_4_5 := b1_4_4.below hb_4_5 b1_4_4.lt; have b2_4_5 := b2_4_4.below hb_4_5 b2_4_4.lt; have zp_4_5 := zp_4_4.below hb_4_5; have zq_4_5 := zq_4_4.below hb_4_5; have zt_4_5 := zt_4_4.below hb_4_5; have zd_4_5 := zd_4_4.below hb_4_5; have zo_4_5 := zo_4_4.below hb_4_5; have ch_4_5 := ch_4_4.trans (hb_4_5.mono ch_4_4.size); have kk_4_5 := cells6 b0_4_5 b1_4_5 b2_4_5) | (have _guard := kk_4_3; clear _guard; go_at_call 25; refine (num_wh 0 _ (by omega) (by omega)).mono ?_; rintro e w_4_4 ⟨vzo, rfl, zo_4_4, hb_4_4⟩; have b0_4_4 := b0_4_3.below hb_4_4 b0_4_3.lt; have b1_4_4 := b1_4_3.below hb_4_4 b1_4_3.lt; have b2_4_4 := b2_4_3.below hb_4_4 b2_4_3.lt; have zp_4_4 := zp_4_3.below hb_4_4; have zq_4_4 := zq_4_3.below hb_4_4; have zt_4_4 := zt_4_3.below hb_4_4; have zd_4_4 := zd_4_3.below hb_4_4; have ch_4_4 := ch_4_3.trans (hb_4_4.mono ch_4_3.size); have kk_4_4 := cells6 b0_4_4 b1_4_4 b2_4_4) | (have _guard := kk_4_2; clear _guard; go_at_call 34; refine (lessv zp_4_2 zq_4_2 kp kq k1).mono ?_; rintro e w_4_3 ⟨vzd, rfl, zd_4_3, hb_4_3⟩; have b0_4_3 := b0_4_2.below hb_4_3 b0_4_2.lt; have b1_4_3 := b1_4_2.below hb_4_3 b1_4_2.lt; have b2_4_3 := b2_4_2.below hb_4_3 b2_4_2.lt; have zp_4_3 := zp_4_2.below hb_4_3; have zq_4_3 := zq_4_2.below hb_4_3; have zt_4_3 := zt_4_2.below hb_4_3; have ch_4_3 := ch_4_2.trans (hb_4_3.mono ch_4_2.size); have kk_4_3 := cells6 b0_4_3 b1_4_3 b2_4_3) | (have _guard := kk_4_1; clear _guard; go_at_call 35; refine (same_l zp_4_1 zq_4_1 o3.out).mono ?_; rintro e w_4_2 ⟨rfl, hb_4_2⟩; have b0_4_2 := b0_4_1.below hb_4_2 b0_4_1.lt; have b1_4_2 := b1_4_1.below hb_4_2 b1_4_1.lt; have b2_4_2 := b2_4_1.below hb_4_2 b2_4_1.lt; have zp_4_2 := zp_4_1.below hb_4_2; have zq_4_2 := zq_4_1.below hb_4_2; have zt_4_2 := zt_4_1.below hb_4_2; have ch_4_2 := ch_4_1.trans (hb_4_2.mono ch_4_1.size); have kk_4_2 := cells6 b0_4_2 b1_4_2 b2_4_2) | (go_at_call 33; refine (cmp_l zq_4_0 zp_4_0 kq kp o2.out).mono ?_; rintro e w_4_1 ⟨rfl, hb_4_1⟩; have b0_4_1 := b0_4_0.below hb_4_1 b0_4_0.lt; have b1_4_1 := b1_4_0.below hb_4_1 b1_4_0.lt; have b2_4_1 := b2_4_0.below hb_4_1 b2_4_0.lt; have zp_4_1 := zp_4_0.below hb_4_1; have zq_4_1 := zq_4_0.below hb_4_1; have zt_4_1 := zt_4_0.below hb_4_1; have ch_4_1 := ch_4_0.trans (hb_4_1.mono ch_4_0.size); have kk_4_1 := cells6 b0_4_1 b1_4_1 b2_4_1))
  replace b0 := b0_4_8
  replace b1 := b1_4_8
  replace b2 := b2_4_8
  replace zp := zp_4_8
  replace zq := zq_4_8
  replace zt := zt_4_8
  have zd := zd_4_8
  have zo := zo_4_8
  have ze := ze_4_8
  have zf := zf_4_8
  have ch5 := ch_4_8
  clear b0_4_8 b0_4_7 b0_4_6 b0_4_5 b0_4_4 b0_4_3 b0_4_2 b0_4_1 b0_4_0 b1_4_8 b1_4_7 b1_4_6 b1_4_5 b1_4_4 b1_4_3 b1_4_2 b1_4_1 b1_4_0 b2_4_8 b2_4_7 b2_4_6 b2_4_5 b2_4_4 b2_4_3 b2_4_2 b2_4_1 b2_4_0 zp_4_8 zp_4_7 zp_4_6 zp_4_5 zp_4_4 zp_4_3 zp_4_2 zp_4_1 zp_4_0 zq_4_8 zq_4_7 zq_4_6 zq_4_5 zq_4_4 zq_4_3 zq_4_2 zq_4_1 zq_4_0 zt_4_8 zt_4_7 zt_4_6 zt_4_5 zt_4_4 zt_4_3 zt_4_2 zt_4_1 zt_4_0 zd_4_8 zd_4_7 zd_4_6 zd_4_5 zd_4_4 zd_4_3 zo_4_8 zo_4_7 zo_4_6 zo_4_5 zo_4_4 ze_4_8 ze_4_7 ze_4_6 zf_4_8 zf_4_7 kk_4_8 kk_4_7 kk_4_6 kk_4_5 kk_4_4 kk_4_3 kk_4_2 kk_4_1 kk_4_0 hb_4_8 hb_4_7 hb_4_6 hb_4_5 hb_4_4 hb_4_3 hb_4_2 hb_4_1 ch_4_8 ch_4_7 ch_4_6 ch_4_5 ch_4_4 ch_4_3 ch_4_2 ch_4_1 ch_4_0
  clear zd zo ze zf
  go_wp2
  have b0_5_0 := b0.drew
  have b1_5_0 := b1.drew
  have b2_5_0 := b2.drew
  have zp_5_0 := whz_drew zp
  have zq_5_0 := whz_drew zq
  have zt_5_0 := whz_drew zt
  have ch_5_0 := ch5.drew
  have kk_5_0 := cells6 b0_5_0 b1_5_0 b2_5_0
  go_region_held3 (fun w' => w'.cell? ⟨w.heap.size, 0, none⟩ = some (.bool x) ∧ w'.cell? ⟨w.heap.size, 1, none⟩ = some (.slice A na ca) ∧ w'.cell? ⟨(w.heap.size + 1), 0, none⟩ = some (.bool y) ∧ w'.cell? ⟨(w.heap.size + 1), 1, none⟩ = some (.slice B nb cb) ∧ w'.cell? ⟨(w.heap.size + 2), 0, none⟩ = some (.bool z) ∧ w'.cell? ⟨(w.heap.size + 2), 1, none⟩ = some (.slice C nc cc))
    (first | (with_reducible exact kk_5_5) | (with_reducible exact kk_5_4) | (with_reducible exact kk_5_3) | (with_reducible exact kk_5_2) | (with_reducible exact kk_5_1) | (with_reducible exact kk_5_0))
    (first | (have _guard := kk_5_4; clear _guard; go_at_call 33; refine (cmp_l zg_5_4 zh_5_4 k4 k5 o6.out).mono ?_; rintro e w_5_5 ⟨rfl, hb_5_5⟩; have b0_5_5 := b0_5_4.below hb_5_5 b0_5_4.lt; have b1_5_5 := b1_5_4.below hb_5_5 b1_5_4.lt; have b2_5_5 := b2_5_4.below hb_5_5 b2_5_4.lt; have zp_5_5 := zp_5_4.below hb_5_5; have zq_5_5 := zq_5_4.below hb_5_5; have zt_5_5 := zt_5_4.below hb_5_5; have zm_5_5 := zm_5_4.below hb_5_5; have zg_5_5 := zg_5_4.below hb_5_5; have zn_5_5 := zn_5_4.below hb_5_5; have zh_5_5 := zh_5_4.below hb_5_5; have ch_5_5 := ch_5_4.trans (hb_5_5.mono ch_5_4.size); have kk_5_5 := cells6 b0_5_5 b1_5_5 b2_5_5) | (have _guard := kk_5_3; clear _guard; go_at_call 32; refine (prodv zq_5_3 zn_5_3 kq kn k5).mono ?_; rintro e w_5_4 ⟨vzh, rfl, zh_5_4, hb_5_4⟩; have b0_5_4 := b0_5_3.below hb_5_4 b0_5_3.lt; have b1_5_4 := b1_5_3.below hb_5_4 b1_5_3.lt; have b2_5_4 := b2_5_3.below hb_5_4 b2_5_3.lt; have zp_5_4 := zp_5_3.below hb_5_4; have zq_5_4 := zq_5_3.below hb_5_4; have zt_5_4 := zt_5_3.below hb_5_4; have zm_5_4 := zm_5_3.below hb_5_4; have zg_5_4 := zg_5_3.below hb_5_4; have zn_5_4 := zn_5_3.below hb_5_4; have ch_5_4 := ch_5_3.trans (hb_5_4.mono ch_5_3.size); have kk_5_4 := cells6 b0_5_4 b1_5_4 b2_5_4) | (have _guard := kk_5_2; clear _guard; go_at_call 25; refine (num_wh (-1) _ (by omega) (by omega)).mono ?_; rintro e w_5_3 ⟨vzn, rfl, zn_5_3, hb_5_3⟩; have b0_5_3 := b0_5_2.below hb_5_3 b0_5_2.lt; have b1_5_3 := b1_5_2.below hb_5_3 b1_5_2.lt; have b2_5_3 := b2_5_2.below hb_5_3 b2_5_2.lt; have zp_5_3 := zp_5_2.below hb_5_3; have zq_5_3 := zq_5_2.below hb_5_3; have zt_5_3 := zt_5_2.below hb_5_3; have zm_5_3 := zm_5_2.below hb_5_3; have zg_5_3 := zg_5_2.below hb_5_3; have ch_5_3 := ch_5_2.trans (hb_5_3.mono ch_5_2.size); have kk_5_3 := cells6 b0_5_3 b1_5_3 b2_5_3) | (have _guard := kk_5_1; clear _guard; go_at_call 32; refine (prodv zp_5_1 zm_5_1 kp kn k4).mono ?_; rintro e w_5_2 ⟨vzg, rfl, zg_5_2, hb_5_2⟩; have b0_5_2 := b0_5_1.below hb_5_2 b0_5_1.lt; have b1_5_2 := b1_5_1.below hb_5_2 b1_5_1.lt; have b2_5_2 := b2_5_1.below hb_5_2 b2_5_1.lt; have zp_5_2 := zp_5_1.below hb_5_2; have zq_5_2 := zq_5_1.below hb_5_2; have zt_5_2 := zt_5_1.below hb_5_2; have zm_5_2 := zm_5_1.below hb_5_2; have ch_5_2 := ch_5_1.trans (hb_5_2.mono ch_5_1.size); have kk_5_2 := cells6 b0_5_2 b1_5_2 b2_5_2) | (go_at_call 25; refine (num_wh (-1) _ (by omega) (by omega)).mono ?_; rintro e w_5_1 ⟨vzm, rfl, zm_5_1, hb_5_1⟩; have b0_5_1 := b0_5_0.below hb_5_1 b0_5_0.lt; have b1_5_1 := b1_5_0.below hb_5_1 b1_5_0.lt; have b2_5_1 := b2_5_0.below hb_5_1 b2_5_0.lt; have zp_5_1 := zp_5_0.below hb_5_1; have zq_5_1 := zq_5_0.below hb_5_1; have zt_5_1 := zt_5_0.below hb_5_1; have ch_5_1 := ch_5_0.trans (hb_5_1.mono ch_5_0.size); have kk_5_1 := cells6 b0_5_1 b1_5_1 b2_5_1))
  replace b0 := b0_5_5
  replace b1 := b1_5_5
  replace b2 := b2_5_5
  replace zp := zp_5_5
  replace zq := zq_5_5
  replace zt := zt_5_5
  have zm := zm_5_5
  have zg := zg_5_5
  have zn := zn_5_5
  have zh := zh_5_5
  have ch6 := ch_5_5
  clear b0_5_5 b0_5_4 b0_5_3 b0_5_2 b0_5_1 b0_5_0 b1_5_5 b1_5_4 b1_5_3 b1_5_2 b1_5_1 b1_5_0 b2_5_5 b2_5_4 b2_5_3 b2_5_2 b2_5_1 b2_5_0 zp_5_5 zp_5_4 zp_5_3 zp_5_2 zp_5_1 zp_5_0 zq_5_5 zq_5_4 zq_5_3 zq_5_2 zq_5_1 zq_5_0 zt_5_5 zt_5_4 zt_5_3 zt_5_2 zt_5_1 zt_5_0 zm_5_5 zm_5_4 zm_5_3 zm_5_2 zm_5_1 zg_5_5 zg_5_4 zg_5_3 zg_5_2 zn_5_5 zn_5_4 zn_5_3 zh_5_5 zh_5_4 kk_5_5 kk_5_4 kk_5_3 kk_5_2 kk_5_1 kk_5_0 hb_5_5 hb_5_4 hb_5_3 hb_5_2 hb_5_1 ch_5_5 ch_5_4 ch_5_3 ch_5_2 ch_5_1 ch_5_0
  clear zm zg zn zh
  rcases cmpZ_cases q t with h | h | h
  · have oH : Hid (cmpZ q t = -1) := h
    clear h
    have c0b0 := (b0.cell 0).trans (b := some (Value.bool x)) rfl
    have c1b0 := (b0.cell 1).trans (b := some (Value.slice A na ca)) rfl
    have c0b1 := (b1.cell 0).trans (b := some (Value.bool y)) rfl
    have c1b1 := (b1.cell 1).trans (b := some (Value.slice B nb cb)) rfl
    have c0b2 := (b2.cell 0).trans (b := some (Value.bool z)) rfl
    have c1b2 := (b2.cell 1).trans (b := some (Value.slice C nc cc)) rfl
    go_wp2_with fail
    refine (cmp_l zq zt kq kt oH.out).mono ?_
    rintro e u6 ⟨rfl, h6⟩
    clear c0b0 c1b0 c0b1 c1b1 c0b2 c1b2
    have ch7 := ch6.trans (h6.mono ch6.size)
    replace b0 := b0.below h6 b0.lt
    replace b1 := b1.below h6 b1.lt
    replace b2 := b2.below h6 b2.lt
    replace zp := zp.below h6
    replace zq := zq.below h6
    replace zt := zt.below h6
    have c0b0 := (b0.cell 0).trans (b := some (Value.bool x)) rfl
    have c1b0 := (b0.cell 1).trans (b := some (Value.slice A na ca)) rfl
    have c0b1 := (b1.cell 0).trans (b := some (Value.bool y)) rfl
    have c1b1 := (b1.cell 1).trans (b := some (Value.slice B nb cb)) rfl
    have c0b2 := (b2.cell 0).trans (b := some (Value.bool z)) rfl
    have c1b2 := (b2.cell 1).trans (b := some (Value.slice C nc cc)) rfl
    go_wp2_with fail
    refine (cmp_l zp zt kp kt (o7.out oH.out)).mono ?_
    rintro e u7 ⟨rfl, h7⟩
    clear c0b0 c1b0 c0b1 c1b1 c0b2 c1b2
    have ch8 := ch7.trans (h7.mono ch7.size)
    replace b0 := b0.below h7 b0.lt
    replace b1 := b1.below h7 b1.lt
    replace b2 := b2.below h7 b2.lt
    replace zp := zp.below h7
    replace zq := zq.below h7
    replace zt := zt.below h7
    go_wp2
    go_ret
    exact ⟨rfl, ch8⟩
  · have oH : Hid (cmpZ q t = 0) := h
    clear h
    have c0b0 := (b0.cell 0).trans (b := some (Value.bool x)) rfl
    have c1b0 := (b0.cell 1).trans (b := some (Value.slice A na ca)) rfl
    have c0b1 := (b1.cell 0).trans (b := some (Value.bool y)) rfl
    have c1b1 := (b1.cell 1).trans (b := some (Value.slice B nb cb)) rfl
    have c0b2 := (b2.cell 0).trans (b := some (Value.bool z)) rfl
    have c1b2 := (b2.cell 1).trans (b := some (Value.slice C nc cc)) rfl
    go_wp2_with fail
    refine (cmp_l zq zt kq kt oH.out).mono ?_
    rintro e u8 ⟨rfl, h8⟩
    clear c0b0 c1b0 c0b1 c1b1 c0b2 c1b2
    have ch7 := ch6.trans (h8.mono ch6.size)
    replace b0 := b0.below h8 b0.lt
    replace b1 := b1.below h8 b1.lt
    replace b2 := b2.below h8 b2.lt
    replace zp := zp.below h8
    replace zq := zq.below h8
    replace zt := zt.below h8
    go_wp2
    go_ret
    exact ⟨rfl, ch7⟩
  · have oH : Hid (cmpZ q t = 1) := h
    clear h
    have c0b0 := (b0.cell 0).trans (b := some (Value.bool x)) rfl
    have c1b0 := (b0.cell 1).trans (b := some (Value.slice A na ca)) rfl
    have c0b1 := (b1.cell 0).trans (b := some (Value.bool y)) rfl
    have c1b1 := (b1.cell 1).trans (b := some (Value.slice B nb cb)) rfl
    have c0b2 := (b2.cell 0).trans (b := some (Value.bool z)) rfl
    have c1b2 := (b2.cell 1).trans (b := some (Value.slice C nc cc)) rfl
    go_wp2_with fail
    refine (cmp_l zq zt kq kt oH.out).mono ?_
    rintro e u9 ⟨rfl, h9⟩
    clear c0b0 c1b0 c0b1 c1b1 c0b2 c1b2
    have ch7 := ch6.trans (h9.mono ch6.size)
    replace b0 := b0.below h9 b0.lt
    replace b1 := b1.below h9 b1.lt
    replace b2 := b2.below h9 b2.lt
    replace zp := zp.below h9
    replace zq := zq.below h9
    replace zt := zt.below h9
    go_wp2
    go_ret
    exact ⟨rfl, ch7⟩

set_option maxRecDepth 100000 in
set_option maxHeartbeats 2000000 in
theorem order_eq {x y z : Bool} {la lb lc : List Nat} {A B C : Option Addr} {na ca nb cb nc cc : Nat} {w : World} (sa : Sl w (.slice A na ca) la) (hna : Hid (la.length = na)) (sb : Sl w (.slice B nb cb) lb) (hnb : Hid (lb.length = nb)) (sc : Sl w (.slice C nc cc) lc) (hnc : Hid (lc.length = nc)) (hu0 : uB 200 x la = true) (hu1 : uB 200 y lb = true) (hu2 : uB 200 z lc = true) (hrel : zv x la = zv y lb) :
  Calls Try.prog 7 #[.agg #[.bool x, .slice A na ca], .agg #[.bool y, .slice B nb cb], .agg #[.bool z, .slice C nc cc]] w fun e w' => e = .returned (.bool true) ∧ Below w.heap.size w w' := by
  have b0 : Blk (((w.alloc (.cells #[.bool x, .slice A na ca] 26)).alloc (.cells #[.bool y, .slice B nb cb] 26)).alloc (.cells #[.bool z, .slice C nc cc] 26)) w.heap.size 26 #[.bool x, .slice A na ca] := by
    have := (((Blk.new w 26 #[.bool x, .slice A na ca]).alloc (.cells #[.bool y, .slice B nb cb] 26)).alloc (.cells #[.bool z, .slice C nc cc] 26))
    exact this
  have b1 : Blk (((w.alloc (.cells #[.bool x, .slice A na ca] 26)).alloc (.cells #[.bool y, .slice B nb cb] 26)).alloc (.cells #[.bool z, .slice C nc cc] 26)) (w.heap.size + 1) 26 #[.bool y, .slice B nb cb] := by
    have := ((Blk.new (w.alloc (.cells #[.bool x, .slice A na ca] 26)) 26 #[.bool y, .slice B nb cb]).alloc (.cells #[.bool z, .slice C nc cc] 26))
    rwa [World.size_alloc] at this
  have b2 : Blk (((w.alloc (.cells #[.bool x, .slice A na ca] 26)).alloc (.cells #[.bool y, .slice B nb cb] 26)).alloc (.cells #[.bool z, .slice C nc cc] 26)) (w.heap.size + 2) 26 #[.bool z, .slice C nc cc] := by
    have := (Blk.new ((w.alloc (.cells #[.bool x, .slice A na ca] 26)).alloc (.cells #[.bool y, .slice B nb cb] 26)) 26 #[.bool z, .slice C nc cc])
    rwa [World.size_alloc, World.size_alloc] at this
  have bw : Below w.heap.size w (((w.alloc (.cells #[.bool x, .slice A na ca] 26)).alloc (.cells #[.bool y, .slice B nb cb] 26)).alloc (.cells #[.bool z, .slice C nc cc] 26)) := (by repeat (first | exact Below.refl _ _ | assumption | refine Below.alloc ?_ (by first | (simp; done) | (simp; omega) | omega) _ | refine Below.setCell ?_ (by first | (simp; done) | (simp; omega) | omega) _ | refine Below.drew ?_))
  replace sa := sa.below bw
  replace sb := sb.below bw
  replace sc := sc.below bw
  have hu : (uB 200 x la && uB 200 y lb && uB 200 z lc) = true := by rw [hu0, hu1, hu2]; rfl
  go_enter Try.func7, Try.ntmps7
  go_wp2_with fail
  refine (awake_any _).mono ?_
  rintro e u1 ⟨rfl, h1⟩
  have ch1 := bw.trans (h1.mono bw.size)
  replace b0 := b0.below h1 b0.lt
  replace b1 := b1.below h1 b1.lt
  replace b2 := b2.below h1 b2.lt
  replace sa := sa.below h1
  replace sb := sb.below h1
  replace sc := sc.below h1
  have c0b0 := (b0.cell 0).trans (b := some (Value.bool x)) rfl
  have c1b0 := (b0.cell 1).trans (b := some (Value.slice A na ca)) rfl
  have c0b1 := (b1.cell 0).trans (b := some (Value.bool y)) rfl
  have c1b1 := (b1.cell 1).trans (b := some (Value.slice B nb cb)) rfl
  have c0b2 := (b2.cell 0).trans (b := some (Value.bool z)) rfl
  have c1b2 := (b2.cell 1).trans (b := some (Value.slice C nc cc)) rfl
  have al : Below u1.heap.size u1 (u1.alloc (.cells #[.bool x, .slice A na ca, .bool y, .slice B nb cb, .bool z, .slice C nc cc] 26)) := (Below.refl _ _).alloc (Nat.le_refl _) _
  have bk : Blk (u1.alloc (.cells #[.bool x, .slice A na ca, .bool y, .slice B nb cb, .bool z, .slice C nc cc] 26)) u1.heap.size 26 #[.bool x, .slice A na ca, .bool y, .slice B nb cb, .bool z, .slice C nc cc] := Blk.new _ _ _
  go_wp2_with fail
  clear c0b0 c1b0 c0b1 c1b1 c0b2 c1b2
  have ch2 := ch1.trans (al.mono ch1.size)
  replace b0 := b0.below al b0.lt
  replace b1 := b1.below al b1.lt
  replace b2 := b2.below al b2.lt
  replace sa := sa.below al
  replace sb := sb.below al
  replace sc := sc.below al
  refine (usable3 (most := 200) (by omega) sa hna sb hnb sc hnc bk).mono ?_
  rintro e u2 ⟨rfl, h2⟩
  rw [hu]
  clear bk al
  have ch3 := ch2.trans (h2.mono ch2.size)
  replace b0 := b0.below h2 b0.lt
  replace b1 := b1.below h2 b1.lt
  replace b2 := b2.below h2 b2.lt
  replace sa := sa.below h2
  replace sb := sb.below h2
  replace sc := sc.below h2
  have hz0 := uB_lz (wh_of_sl (x := x) sa hna) hu0
  obtain ⟨p, hp⟩ : ∃ p, zv x la = p := ⟨_, rfl⟩
  rw [hp] at hz0
  have zp := hz0.2.1
  have lp := hz0.2.2
  have hz1 := uB_lz (wh_of_sl (x := y) sb hnb) hu1
  obtain ⟨q, hq⟩ : ∃ q, zv y lb = q := ⟨_, rfl⟩
  rw [hq] at hz1
  have zq := hz1.2.1
  have lq := hz1.2.2
  have hz2 := uB_lz (wh_of_sl (x := z) sc hnc) hu2
  obtain ⟨t, ht⟩ : ∃ t, zv z lc = t := ⟨_, rfl⟩
  rw [ht] at hz2
  have zt := hz2.2.1
  have lt := hz2.2.2
  rw [hp, hq] at hrel
  clear sa sb sc hna hnb hnc hu hu0 hu1 hu2 hz0 hz1 hz2 hp hq ht
  have o1 : Hid (cmpZ p q = 0) := cmpZ_eq (by omega)
  have o2 : Hid (cmpZ q p = 0) := cmpZ_eq (by omega)
  have o3 : Hid (decide (p = q) = true) := by show _ = _; simp; omega
  have o4 : Hid (cmpZ (p - q) 0 = 0) := cmpZ_eq (by omega)
  have o5 : Hid (cmpZ (p + t) (q + t) = 0) := cmpZ_eq (by omega)
  have o6 : Hid (cmpZ (p * -1) (q * -1) = 0) := cmpZ_eq (by omega)
  have o7 : Hid (cmpZ q t = 0 → cmpZ p t = 0) := fun h => cmpZ_trans o1.out h
  have kp := lp.mono (k := 1024) (by omega)
  have kq := lq.mono (k := 1024) (by omega)
  have kt := lt.mono (k := 1024) (by omega)
  have k1 := (lp.sub lq).mono (k := 1024) (by omega)
  have k2 := (lp.add lt).mono (k := 1024) (by omega)
  have k3 := (lq.add lt).mono (k := 1024) (by omega)
  have k0 : Lz 1024 0 := (lz_one (by decide)).mono (by omega)
  have km : Lz 1 (-1) := lz_one (by decide)
  have k4 := (lp.mul km).mono (k := 1024) (by omega)
  have k5 := (lq.mul km).mono (k := 1024) (by omega)
  have kn := km.mono (k := 1024) (by omega)
  clear hrel
  have ew1 : IntKind.i64.wrap 1 = 1 := by decide
  have ew2 : IntKind.i64.wrap (-1) = -1 := by decide
  have ew3 : IntKind.i64.wrap 0 = 0 := by decide
  have c0b0 := (b0.cell 0).trans (b := some (Value.bool x)) rfl
  have c1b0 := (b0.cell 1).trans (b := some (Value.slice A na ca)) rfl
  have c0b1 := (b1.cell 0).trans (b := some (Value.bool y)) rfl
  have c1b1 := (b1.cell 1).trans (b := some (Value.slice B nb cb)) rfl
  have c0b2 := (b2.cell 0).trans (b := some (Value.bool z)) rfl
  have c1b2 := (b2.cell 1).trans (b := some (Value.slice C nc cc)) rfl
  go_wp2_with fail
  refine (cmp_l zp zq kp kq o1.out).mono ?_
  rintro e u3 ⟨rfl, h3⟩
  clear c0b0 c1b0 c0b1 c1b1 c0b2 c1b2
  have ch4 := ch3.trans (h3.mono ch3.size)
  replace b0 := b0.below h3 b0.lt
  replace b1 := b1.below h3 b1.lt
  replace b2 := b2.below h3 b2.lt
  replace zp := zp.below h3
  replace zq := zq.below h3
  replace zt := zt.below h3
  go_wp2
  have b0_4_0 := b0.drew
  have b1_4_0 := b1.drew
  have b2_4_0 := b2.drew
  have zp_4_0 := whz_drew zp
  have zq_4_0 := whz_drew zq
  have zt_4_0 := whz_drew zt
  have ch_4_0 := ch4.drew
  have kk_4_0 := cells6 b0_4_0 b1_4_0 b2_4_0
  go_region_held3 (fun w' => w'.cell? ⟨w.heap.size, 0, none⟩ = some (.bool x) ∧ w'.cell? ⟨w.heap.size, 1, none⟩ = some (.slice A na ca) ∧ w'.cell? ⟨(w.heap.size + 1), 0, none⟩ = some (.bool y) ∧ w'.cell? ⟨(w.heap.size + 1), 1, none⟩ = some (.slice B nb cb) ∧ w'.cell? ⟨(w.heap.size + 2), 0, none⟩ = some (.bool z) ∧ w'.cell? ⟨(w.heap.size + 2), 1, none⟩ = some (.slice C nc cc))
    (first | (with_reducible exact kk_4_8) | (with_reducible exact kk_4_7) | (with_reducible exact kk_4_6) | (with_reducible exact kk_4_5) | (with_reducible exact kk_4_4) | (with_reducible exact kk_4_3) | (with_reducible exact kk_4_2) | (with_reducible exact kk_4_1) | (with_reducible exact kk_4_0))
    (first | (have _guard := kk_4_7; clear _guard; go_at_call 33; refine (cmp_l ze_4_7 zf_4_7 k2 k3 o5.out).mono ?_; rintro e w_4_8 ⟨rfl, hb_4_8⟩; have b0_4_8 := b0_4_7.below hb_4_8 b0_4_7.lt; have b1_4_8 := b1_4_7.below hb_4_8 b1_4_7.lt; have b2_4_8 := b2_4_7.below hb_4_8 b2_4_7.lt; have zp_4_8 := zp_4_7.below hb_4_8; have zq_4_8 := zq_4_7.below hb_4_8; have zt_4_8 := zt_4_7.below hb_4_8; have zd_4_8 := zd_4_7.below hb_4_8; have zo_4_8 := zo_4_7.below hb_4_8; have ze_4_8 := ze_4_7.below hb_4_8; have zf_4_8 := zf_4_7.below hb_4_8; have ch_4_8 := ch_4_7.trans (hb_4_8.mono ch_4_7.size); have kk_4_8 := cells6 b0_4_8 b1_4_8 b2_4_8) | (have _guard := kk_4_6; clear _guard; go_at_call 31; refine (sumv zq_4_6 zt_4_6 kq kt k3).mono ?_; rintro e w_4_7 ⟨vzf, rfl, zf_4_7, hb_4_7⟩; have b0_4_7 := b0_4_6.below hb_4_7 b0_4_6.lt; have b1_4_7 := b1_4_6.below hb_4_7 b1_4_6.lt; have b2_4_7 := b2_4_6.below hb_4_7 b2_4_6.lt; have zp_4_7 := zp_4_6.below hb_4_7; have zq_4_7 := zq_4_6.below hb_4_7; have zt_4_7 := zt_4_6.below hb_4_7; have zd_4_7 := zd_4_6.below hb_4_7; have zo_4_7 := zo_4_6.below hb_4_7; have ze_4_7 := ze_4_6.below hb_4_7; have ch_4_7 := ch_4_6.trans (hb_4_7.mono ch_4_6.size); have kk_4_7 := cells6 b0_4_7 b1_4_7 b2_4_7) | (have _guard := kk_4_5; clear _guard; go_at_call 31; refine (sumv zp_4_5 zt_4_5 kp kt k2).mono ?_; rintro e w_4_6 ⟨vze, rfl, ze_4_6, hb_4_6⟩; have b0_4_6 := b0_4_5.below hb_4_6 b0_4_5.lt; have b1_4_6 := b1_4_5.below hb_4_6 b1_4_5.lt; have b2_4_6 := b2_4_5.below hb_4_6 b2_4_5.lt; have zp_4_6 := zp_4_5.below hb_4_6; have zq_4_6 := zq_4_5.below hb_4_6; have zt_4_6 := zt_4_5.below hb_4_6; have zd_4_6 := zd_4_5.below hb_4_6; have zo_4_6 := zo_4_5.below hb_4_6; have ch_4_6 := ch_4_5.trans (hb_4_6.mono ch_4_5.size); have kk_4_6 := cells6 b0_4_6 b1_4_6 b2_4_6) | (have _guard := kk_4_4; clear _guard; go_at_call 33; refine (cmp_l zd_4_4 zo_4_4 k1 k0 o4.out).mono ?_; rintro e w_4_5 ⟨rfl, hb_4_5⟩; have b0_4_5 := b0_4_4.below hb_4_5 b0_4_4.lt; have b1_4_5 := b1_4_4.below hb_4_5 b1_4_4.lt; have b2_4_5 := b2_4_4.below hb_4_5 b2_4_4.lt; have zp_4_5 := zp_4_4.below hb_4_5; have zq_4_5 := zq_4_4.below hb_4_5; have zt_4_5 := zt_4_4.below hb_4_5; have zd_4_5 := zd_4_4.below hb_4_5; have zo_4_5 := zo_4_4.below hb_4_5; have ch_4_5 := ch_4_4.trans (hb_4_5.mono ch_4_4.size); have kk_4_5 := cells6 b0_4_5 b1_4_5 b2_4_5) | (have _guard := kk_4_3; clear _guard; go_at_call 25; refine (num_wh 0 _ (by omega) (by omega)).mono ?_; rintro e w_4_4 ⟨vzo, rfl, zo_4_4, hb_4_4⟩; have b0_4_4 := b0_4_3.below hb_4_4 b0_4_3.lt; have b1_4_4 := b1_4_3.below hb_4_4 b1_4_3.lt; have b2_4_4 := b2_4_3.below hb_4_4 b2_4_3.lt; have zp_4_4 := zp_4_3.below hb_4_4; have zq_4_4 := zq_4_3.below hb_4_4; have zt_4_4 := zt_4_3.below hb_4_4; have zd_4_4 := zd_4_3.below hb_4_4; have ch_4_4 := ch_4_3.trans (hb_4_4.mono ch_4_3.size); have kk_4_4 := cells6 b0_4_4 b1_4_4 b2_4_4) | (have _guard := kk_4_2; clear _guard; go_at_call 34; refine (lessv zp_4_2 zq_4_2 kp kq k1).mono ?_; rintro e w_4_3 ⟨vzd, rfl, zd_4_3, hb_4_3⟩; have b0_4_3 := b0_4_2.below hb_4_3 b0_4_2.lt; have b1_4_3 := b1_4_2.below hb_4_3 b1_4_2.lt; have b2_4_3 := b2_4_2.below hb_4_3 b2_4_2.lt; have zp_4_3 := zp_4_2.below hb_4_3; have zq_4_3 := zq_4_2.below hb_4_3; have zt_4_3 := zt_4_2.below hb_4_3; have ch_4_3 := ch_4_2.trans (hb_4_3.mono ch_4_2.size); have kk_4_3 := cells6 b0_4_3 b1_4_3 b2_4_3) | (have _guard := kk_4_1; clear _guard; go_at_call 35; refine (same_l zp_4_1 zq_4_1 o3.out).mono ?_; rintro e w_4_2 ⟨rfl, hb_4_2⟩; have b0_4_2 := b0_4_1.below hb_4_2 b0_4_1.lt; have b1_4_2 := b1_4_1.below hb_4_2 b1_4_1.lt; have b2_4_2 := b2_4_1.below hb_4_2 b2_4_1.lt; have zp_4_2 := zp_4_1.below hb_4_2; have zq_4_2 := zq_4_1.below hb_4_2; have zt_4_2 := zt_4_1.below hb_4_2; have ch_4_2 := ch_4_1.trans (hb_4_2.mono ch_4_1.size); have kk_4_2 := cells6 b0_4_2 b1_4_2 b2_4_2) | (go_at_call 33; refine (cmp_l zq_4_0 zp_4_0 kq kp o2.out).mono ?_; rintro e w_4_1 ⟨rfl, hb_4_1⟩; have b0_4_1 := b0_4_0.below hb_4_1 b0_4_0.lt; have b1_4_1 := b1_4_0.below hb_4_1 b1_4_0.lt; have b2_4_1 := b2_4_0.below hb_4_1 b2_4_0.lt; have zp_4_1 := zp_4_0.below hb_4_1; have zq_4_1 := zq_4_0.below hb_4_1; have zt_4_1 := zt_4_0.below hb_4_1; have ch_4_1 := ch_4_0.trans (hb_4_1.mono ch_4_0.size); have kk_4_1 := cells6 b0_4_1 b1_4_1 b2_4_1))
  replace b0 := b0_4_8
  replace b1 := b1_4_8
  replace b2 := b2_4_8
  replace zp := zp_4_8
  replace zq := zq_4_8
  replace zt := zt_4_8
  have zd := zd_4_8
  have zo := zo_4_8
  have ze := ze_4_8
  have zf := zf_4_8
  have ch5 := ch_4_8
  clear b0_4_8 b0_4_7 b0_4_6 b0_4_5 b0_4_4 b0_4_3 b0_4_2 b0_4_1 b0_4_0 b1_4_8 b1_4_7 b1_4_6 b1_4_5 b1_4_4 b1_4_3 b1_4_2 b1_4_1 b1_4_0 b2_4_8 b2_4_7 b2_4_6 b2_4_5 b2_4_4 b2_4_3 b2_4_2 b2_4_1 b2_4_0 zp_4_8 zp_4_7 zp_4_6 zp_4_5 zp_4_4 zp_4_3 zp_4_2 zp_4_1 zp_4_0 zq_4_8 zq_4_7 zq_4_6 zq_4_5 zq_4_4 zq_4_3 zq_4_2 zq_4_1 zq_4_0 zt_4_8 zt_4_7 zt_4_6 zt_4_5 zt_4_4 zt_4_3 zt_4_2 zt_4_1 zt_4_0 zd_4_8 zd_4_7 zd_4_6 zd_4_5 zd_4_4 zd_4_3 zo_4_8 zo_4_7 zo_4_6 zo_4_5 zo_4_4 ze_4_8 ze_4_7 ze_4_6 zf_4_8 zf_4_7 kk_4_8 kk_4_7 kk_4_6 kk_4_5 kk_4_4 kk_4_3 kk_4_2 kk_4_1 kk_4_0 hb_4_8 hb_4_7 hb_4_6 hb_4_5 hb_4_4 hb_4_3 hb_4_2 hb_4_1 ch_4_8 ch_4_7 ch_4_6 ch_4_5 ch_4_4 ch_4_3 ch_4_2 ch_4_1 ch_4_0
  clear zd zo ze zf
  go_wp2
  have b0_5_0 := b0.drew
  have b1_5_0 := b1.drew
  have b2_5_0 := b2.drew
  have zp_5_0 := whz_drew zp
  have zq_5_0 := whz_drew zq
  have zt_5_0 := whz_drew zt
  have ch_5_0 := ch5.drew
  have kk_5_0 := cells6 b0_5_0 b1_5_0 b2_5_0
  go_region_held3 (fun w' => w'.cell? ⟨w.heap.size, 0, none⟩ = some (.bool x) ∧ w'.cell? ⟨w.heap.size, 1, none⟩ = some (.slice A na ca) ∧ w'.cell? ⟨(w.heap.size + 1), 0, none⟩ = some (.bool y) ∧ w'.cell? ⟨(w.heap.size + 1), 1, none⟩ = some (.slice B nb cb) ∧ w'.cell? ⟨(w.heap.size + 2), 0, none⟩ = some (.bool z) ∧ w'.cell? ⟨(w.heap.size + 2), 1, none⟩ = some (.slice C nc cc))
    (first | (with_reducible exact kk_5_5) | (with_reducible exact kk_5_4) | (with_reducible exact kk_5_3) | (with_reducible exact kk_5_2) | (with_reducible exact kk_5_1) | (with_reducible exact kk_5_0))
    (first | (have _guard := kk_5_4; clear _guard; go_at_call 33; refine (cmp_l zg_5_4 zh_5_4 k4 k5 o6.out).mono ?_; rintro e w_5_5 ⟨rfl, hb_5_5⟩; have b0_5_5 := b0_5_4.below hb_5_5 b0_5_4.lt; have b1_5_5 := b1_5_4.below hb_5_5 b1_5_4.lt; have b2_5_5 := b2_5_4.below hb_5_5 b2_5_4.lt; have zp_5_5 := zp_5_4.below hb_5_5; have zq_5_5 := zq_5_4.below hb_5_5; have zt_5_5 := zt_5_4.below hb_5_5; have zm_5_5 := zm_5_4.below hb_5_5; have zg_5_5 := zg_5_4.below hb_5_5; have zn_5_5 := zn_5_4.below hb_5_5; have zh_5_5 := zh_5_4.below hb_5_5; have ch_5_5 := ch_5_4.trans (hb_5_5.mono ch_5_4.size); have kk_5_5 := cells6 b0_5_5 b1_5_5 b2_5_5) | (have _guard := kk_5_3; clear _guard; go_at_call 32; refine (prodv zq_5_3 zn_5_3 kq kn k5).mono ?_; rintro e w_5_4 ⟨vzh, rfl, zh_5_4, hb_5_4⟩; have b0_5_4 := b0_5_3.below hb_5_4 b0_5_3.lt; have b1_5_4 := b1_5_3.below hb_5_4 b1_5_3.lt; have b2_5_4 := b2_5_3.below hb_5_4 b2_5_3.lt; have zp_5_4 := zp_5_3.below hb_5_4; have zq_5_4 := zq_5_3.below hb_5_4; have zt_5_4 := zt_5_3.below hb_5_4; have zm_5_4 := zm_5_3.below hb_5_4; have zg_5_4 := zg_5_3.below hb_5_4; have zn_5_4 := zn_5_3.below hb_5_4; have ch_5_4 := ch_5_3.trans (hb_5_4.mono ch_5_3.size); have kk_5_4 := cells6 b0_5_4 b1_5_4 b2_5_4) | (have _guard := kk_5_2; clear _guard; go_at_call 25; refine (num_wh (-1) _ (by omega) (by omega)).mono ?_; rintro e w_5_3 ⟨vzn, rfl, zn_5_3, hb_5_3⟩; have b0_5_3 := b0_5_2.below hb_5_3 b0_5_2.lt; have b1_5_3 := b1_5_2.below hb_5_3 b1_5_2.lt; have b2_5_3 := b2_5_2.below hb_5_3 b2_5_2.lt; have zp_5_3 := zp_5_2.below hb_5_3; have zq_5_3 := zq_5_2.below hb_5_3; have zt_5_3 := zt_5_2.below hb_5_3; have zm_5_3 := zm_5_2.below hb_5_3; have zg_5_3 := zg_5_2.below hb_5_3; have ch_5_3 := ch_5_2.trans (hb_5_3.mono ch_5_2.size); have kk_5_3 := cells6 b0_5_3 b1_5_3 b2_5_3) | (have _guard := kk_5_1; clear _guard; go_at_call 32; refine (prodv zp_5_1 zm_5_1 kp kn k4).mono ?_; rintro e w_5_2 ⟨vzg, rfl, zg_5_2, hb_5_2⟩; have b0_5_2 := b0_5_1.below hb_5_2 b0_5_1.lt; have b1_5_2 := b1_5_1.below hb_5_2 b1_5_1.lt; have b2_5_2 := b2_5_1.below hb_5_2 b2_5_1.lt; have zp_5_2 := zp_5_1.below hb_5_2; have zq_5_2 := zq_5_1.below hb_5_2; have zt_5_2 := zt_5_1.below hb_5_2; have zm_5_2 := zm_5_1.below hb_5_2; have ch_5_2 := ch_5_1.trans (hb_5_2.mono ch_5_1.size); have kk_5_2 := cells6 b0_5_2 b1_5_2 b2_5_2) | (go_at_call 25; refine (num_wh (-1) _ (by omega) (by omega)).mono ?_; rintro e w_5_1 ⟨vzm, rfl, zm_5_1, hb_5_1⟩; have b0_5_1 := b0_5_0.below hb_5_1 b0_5_0.lt; have b1_5_1 := b1_5_0.below hb_5_1 b1_5_0.lt; have b2_5_1 := b2_5_0.below hb_5_1 b2_5_0.lt; have zp_5_1 := zp_5_0.below hb_5_1; have zq_5_1 := zq_5_0.below hb_5_1; have zt_5_1 := zt_5_0.below hb_5_1; have ch_5_1 := ch_5_0.trans (hb_5_1.mono ch_5_0.size); have kk_5_1 := cells6 b0_5_1 b1_5_1 b2_5_1))
  replace b0 := b0_5_5
  replace b1 := b1_5_5
  replace b2 := b2_5_5
  replace zp := zp_5_5
  replace zq := zq_5_5
  replace zt := zt_5_5
  have zm := zm_5_5
  have zg := zg_5_5
  have zn := zn_5_5
  have zh := zh_5_5
  have ch6 := ch_5_5
  clear b0_5_5 b0_5_4 b0_5_3 b0_5_2 b0_5_1 b0_5_0 b1_5_5 b1_5_4 b1_5_3 b1_5_2 b1_5_1 b1_5_0 b2_5_5 b2_5_4 b2_5_3 b2_5_2 b2_5_1 b2_5_0 zp_5_5 zp_5_4 zp_5_3 zp_5_2 zp_5_1 zp_5_0 zq_5_5 zq_5_4 zq_5_3 zq_5_2 zq_5_1 zq_5_0 zt_5_5 zt_5_4 zt_5_3 zt_5_2 zt_5_1 zt_5_0 zm_5_5 zm_5_4 zm_5_3 zm_5_2 zm_5_1 zg_5_5 zg_5_4 zg_5_3 zg_5_2 zn_5_5 zn_5_4 zn_5_3 zh_5_5 zh_5_4 kk_5_5 kk_5_4 kk_5_3 kk_5_2 kk_5_1 kk_5_0 hb_5_5 hb_5_4 hb_5_3 hb_5_2 hb_5_1 ch_5_5 ch_5_4 ch_5_3 ch_5_2 ch_5_1 ch_5_0
  clear zm zg zn zh
  rcases cmpZ_cases q t with h | h | h
  · have oH : Hid (cmpZ q t = -1) := h
    clear h
    have c0b0 := (b0.cell 0).trans (b := some (Value.bool x)) rfl
    have c1b0 := (b0.cell 1).trans (b := some (Value.slice A na ca)) rfl
    have c0b1 := (b1.cell 0).trans (b := some (Value.bool y)) rfl
    have c1b1 := (b1.cell 1).trans (b := some (Value.slice B nb cb)) rfl
    have c0b2 := (b2.cell 0).trans (b := some (Value.bool z)) rfl
    have c1b2 := (b2.cell 1).trans (b := some (Value.slice C nc cc)) rfl
    go_wp2_with fail
    refine (cmp_l zq zt kq kt oH.out).mono ?_
    rintro e u6 ⟨rfl, h6⟩
    clear c0b0 c1b0 c0b1 c1b1 c0b2 c1b2
    have ch7 := ch6.trans (h6.mono ch6.size)
    replace b0 := b0.below h6 b0.lt
    replace b1 := b1.below h6 b1.lt
    replace b2 := b2.below h6 b2.lt
    replace zp := zp.below h6
    replace zq := zq.below h6
    replace zt := zt.below h6
    go_wp2
    go_ret
    exact ⟨rfl, ch7⟩
  · have oH : Hid (cmpZ q t = 0) := h
    clear h
    have c0b0 := (b0.cell 0).trans (b := some (Value.bool x)) rfl
    have c1b0 := (b0.cell 1).trans (b := some (Value.slice A na ca)) rfl
    have c0b1 := (b1.cell 0).trans (b := some (Value.bool y)) rfl
    have c1b1 := (b1.cell 1).trans (b := some (Value.slice B nb cb)) rfl
    have c0b2 := (b2.cell 0).trans (b := some (Value.bool z)) rfl
    have c1b2 := (b2.cell 1).trans (b := some (Value.slice C nc cc)) rfl
    go_wp2_with fail
    refine (cmp_l zq zt kq kt oH.out).mono ?_
    rintro e u7 ⟨rfl, h7⟩
    clear c0b0 c1b0 c0b1 c1b1 c0b2 c1b2
    have ch7 := ch6.trans (h7.mono ch6.size)
    replace b0 := b0.below h7 b0.lt
    replace b1 := b1.below h7 b1.lt
    replace b2 := b2.below h7 b2.lt
    replace zp := zp.below h7
    replace zq := zq.below h7
    replace zt := zt.below h7
    have c0b0 := (b0.cell 0).trans (b := some (Value.bool x)) rfl
    have c1b0 := (b0.cell 1).trans (b := some (Value.slice A na ca)) rfl
    have c0b1 := (b1.cell 0).trans (b := some (Value.bool y)) rfl
    have c1b1 := (b1.cell 1).trans (b := some (Value.slice B nb cb)) rfl
    have c0b2 := (b2.cell 0).trans (b := some (Value.bool z)) rfl
    have c1b2 := (b2.cell 1).trans (b := some (Value.slice C nc cc)) rfl
    go_wp2_with fail
    refine (cmp_l zp zt kp kt (o7.out oH.out)).mono ?_
    rintro e u8 ⟨rfl, h8⟩
    clear c0b0 c1b0 c0b1 c1b1 c0b2 c1b2
    have ch8 := ch7.trans (h8.mono ch7.size)
    replace b0 := b0.below h8 b0.lt
    replace b1 := b1.below h8 b1.lt
    replace b2 := b2.below h8 b2.lt
    replace zp := zp.below h8
    replace zq := zq.below h8
    replace zt := zt.below h8
    go_wp2
    go_ret
    exact ⟨rfl, ch8⟩
  · have oH : Hid (cmpZ q t = 1) := h
    clear h
    have c0b0 := (b0.cell 0).trans (b := some (Value.bool x)) rfl
    have c1b0 := (b0.cell 1).trans (b := some (Value.slice A na ca)) rfl
    have c0b1 := (b1.cell 0).trans (b := some (Value.bool y)) rfl
    have c1b1 := (b1.cell 1).trans (b := some (Value.slice B nb cb)) rfl
    have c0b2 := (b2.cell 0).trans (b := some (Value.bool z)) rfl
    have c1b2 := (b2.cell 1).trans (b := some (Value.slice C nc cc)) rfl
    go_wp2_with fail
    refine (cmp_l zq zt kq kt oH.out).mono ?_
    rintro e u9 ⟨rfl, h9⟩
    clear c0b0 c1b0 c0b1 c1b1 c0b2 c1b2
    have ch7 := ch6.trans (h9.mono ch6.size)
    replace b0 := b0.below h9 b0.lt
    replace b1 := b1.below h9 b1.lt
    replace b2 := b2.below h9 b2.lt
    replace zp := zp.below h9
    replace zq := zq.below h9
    replace zt := zt.below h9
    go_wp2
    go_ret
    exact ⟨rfl, ch7⟩

set_option maxRecDepth 100000 in
set_option maxHeartbeats 2000000 in
theorem order_gt {x y z : Bool} {la lb lc : List Nat} {A B C : Option Addr} {na ca nb cb nc cc : Nat} {w : World} (sa : Sl w (.slice A na ca) la) (hna : Hid (la.length = na)) (sb : Sl w (.slice B nb cb) lb) (hnb : Hid (lb.length = nb)) (sc : Sl w (.slice C nc cc) lc) (hnc : Hid (lc.length = nc)) (hu0 : uB 200 x la = true) (hu1 : uB 200 y lb = true) (hu2 : uB 200 z lc = true) (hrel : zv y lb < zv x la) :
  Calls Try.prog 7 #[.agg #[.bool x, .slice A na ca], .agg #[.bool y, .slice B nb cb], .agg #[.bool z, .slice C nc cc]] w fun e w' => e = .returned (.bool true) ∧ Below w.heap.size w w' := by
  have b0 : Blk (((w.alloc (.cells #[.bool x, .slice A na ca] 26)).alloc (.cells #[.bool y, .slice B nb cb] 26)).alloc (.cells #[.bool z, .slice C nc cc] 26)) w.heap.size 26 #[.bool x, .slice A na ca] := by
    have := (((Blk.new w 26 #[.bool x, .slice A na ca]).alloc (.cells #[.bool y, .slice B nb cb] 26)).alloc (.cells #[.bool z, .slice C nc cc] 26))
    exact this
  have b1 : Blk (((w.alloc (.cells #[.bool x, .slice A na ca] 26)).alloc (.cells #[.bool y, .slice B nb cb] 26)).alloc (.cells #[.bool z, .slice C nc cc] 26)) (w.heap.size + 1) 26 #[.bool y, .slice B nb cb] := by
    have := ((Blk.new (w.alloc (.cells #[.bool x, .slice A na ca] 26)) 26 #[.bool y, .slice B nb cb]).alloc (.cells #[.bool z, .slice C nc cc] 26))
    rwa [World.size_alloc] at this
  have b2 : Blk (((w.alloc (.cells #[.bool x, .slice A na ca] 26)).alloc (.cells #[.bool y, .slice B nb cb] 26)).alloc (.cells #[.bool z, .slice C nc cc] 26)) (w.heap.size + 2) 26 #[.bool z, .slice C nc cc] := by
    have := (Blk.new ((w.alloc (.cells #[.bool x, .slice A na ca] 26)).alloc (.cells #[.bool y, .slice B nb cb] 26)) 26 #[.bool z, .slice C nc cc])
    rwa [World.size_alloc, World.size_alloc] at this
  have bw : Below w.heap.size w (((w.alloc (.cells #[.bool x, .slice A na ca] 26)).alloc (.cells #[.bool y, .slice B nb cb] 26)).alloc (.cells #[.bool z, .slice C nc cc] 26)) := (by repeat (first | exact Below.refl _ _ | assumption | refine Below.alloc ?_ (by first | (simp; done) | (simp; omega) | omega) _ | refine Below.setCell ?_ (by first | (simp; done) | (simp; omega) | omega) _ | refine Below.drew ?_))
  replace sa := sa.below bw
  replace sb := sb.below bw
  replace sc := sc.below bw
  have hu : (uB 200 x la && uB 200 y lb && uB 200 z lc) = true := by rw [hu0, hu1, hu2]; rfl
  go_enter Try.func7, Try.ntmps7
  go_wp2_with fail
  refine (awake_any _).mono ?_
  rintro e u1 ⟨rfl, h1⟩
  have ch1 := bw.trans (h1.mono bw.size)
  replace b0 := b0.below h1 b0.lt
  replace b1 := b1.below h1 b1.lt
  replace b2 := b2.below h1 b2.lt
  replace sa := sa.below h1
  replace sb := sb.below h1
  replace sc := sc.below h1
  have c0b0 := (b0.cell 0).trans (b := some (Value.bool x)) rfl
  have c1b0 := (b0.cell 1).trans (b := some (Value.slice A na ca)) rfl
  have c0b1 := (b1.cell 0).trans (b := some (Value.bool y)) rfl
  have c1b1 := (b1.cell 1).trans (b := some (Value.slice B nb cb)) rfl
  have c0b2 := (b2.cell 0).trans (b := some (Value.bool z)) rfl
  have c1b2 := (b2.cell 1).trans (b := some (Value.slice C nc cc)) rfl
  have al : Below u1.heap.size u1 (u1.alloc (.cells #[.bool x, .slice A na ca, .bool y, .slice B nb cb, .bool z, .slice C nc cc] 26)) := (Below.refl _ _).alloc (Nat.le_refl _) _
  have bk : Blk (u1.alloc (.cells #[.bool x, .slice A na ca, .bool y, .slice B nb cb, .bool z, .slice C nc cc] 26)) u1.heap.size 26 #[.bool x, .slice A na ca, .bool y, .slice B nb cb, .bool z, .slice C nc cc] := Blk.new _ _ _
  go_wp2_with fail
  clear c0b0 c1b0 c0b1 c1b1 c0b2 c1b2
  have ch2 := ch1.trans (al.mono ch1.size)
  replace b0 := b0.below al b0.lt
  replace b1 := b1.below al b1.lt
  replace b2 := b2.below al b2.lt
  replace sa := sa.below al
  replace sb := sb.below al
  replace sc := sc.below al
  refine (usable3 (most := 200) (by omega) sa hna sb hnb sc hnc bk).mono ?_
  rintro e u2 ⟨rfl, h2⟩
  rw [hu]
  clear bk al
  have ch3 := ch2.trans (h2.mono ch2.size)
  replace b0 := b0.below h2 b0.lt
  replace b1 := b1.below h2 b1.lt
  replace b2 := b2.below h2 b2.lt
  replace sa := sa.below h2
  replace sb := sb.below h2
  replace sc := sc.below h2
  have hz0 := uB_lz (wh_of_sl (x := x) sa hna) hu0
  obtain ⟨p, hp⟩ : ∃ p, zv x la = p := ⟨_, rfl⟩
  rw [hp] at hz0
  have zp := hz0.2.1
  have lp := hz0.2.2
  have hz1 := uB_lz (wh_of_sl (x := y) sb hnb) hu1
  obtain ⟨q, hq⟩ : ∃ q, zv y lb = q := ⟨_, rfl⟩
  rw [hq] at hz1
  have zq := hz1.2.1
  have lq := hz1.2.2
  have hz2 := uB_lz (wh_of_sl (x := z) sc hnc) hu2
  obtain ⟨t, ht⟩ : ∃ t, zv z lc = t := ⟨_, rfl⟩
  rw [ht] at hz2
  have zt := hz2.2.1
  have lt := hz2.2.2
  rw [hp, hq] at hrel
  clear sa sb sc hna hnb hnc hu hu0 hu1 hu2 hz0 hz1 hz2 hp hq ht
  have o1 : Hid (cmpZ p q = 1) := cmpZ_gt (by omega)
  have o2 : Hid (cmpZ q p = -1) := cmpZ_lt (by omega)
  have o3 : Hid (decide (p = q) = false) := by show _ = _; simp; omega
  have o4 : Hid (cmpZ (p - q) 0 = 1) := cmpZ_gt (by omega)
  have o5 : Hid (cmpZ (p + t) (q + t) = 1) := cmpZ_gt (by omega)
  have o6 : Hid (cmpZ (p * -1) (q * -1) = -1) := cmpZ_lt (by omega)
  have o7 : Hid (cmpZ q t = 1 → cmpZ p t = 1) := fun h => cmpZ_trans o1.out h
  have kp := lp.mono (k := 1024) (by omega)
  have kq := lq.mono (k := 1024) (by omega)
  have kt := lt.mono (k := 1024) (by omega)
  have k1 := (lp.sub lq).mono (k := 1024) (by omega)
  have k2 := (lp.add lt).mono (k := 1024) (by omega)
  have k3 := (lq.add lt).mono (k := 1024) (by omega)
  have k0 : Lz 1024 0 := (lz_one (by decide)).mono (by omega)
  have km : Lz 1 (-1) := lz_one (by decide)
  have k4 := (lp.mul km).mono (k := 1024) (by omega)
  have k5 := (lq.mul km).mono (k := 1024) (by omega)
  have kn := km.mono (k := 1024) (by omega)
  clear hrel
  have ew1 : IntKind.i64.wrap 1 = 1 := by decide
  have ew2 : IntKind.i64.wrap (-1) = -1 := by decide
  have ew3 : IntKind.i64.wrap 0 = 0 := by decide
  have c0b0 := (b0.cell 0).trans (b := some (Value.bool x)) rfl
  have c1b0 := (b0.cell 1).trans (b := some (Value.slice A na ca)) rfl
  have c0b1 := (b1.cell 0).trans (b := some (Value.bool y)) rfl
  have c1b1 := (b1.cell 1).trans (b := some (Value.slice B nb cb)) rfl
  have c0b2 := (b2.cell 0).trans (b := some (Value.bool z)) rfl
  have c1b2 := (b2.cell 1).trans (b := some (Value.slice C nc cc)) rfl
  go_wp2_with fail
  refine (cmp_l zp zq kp kq o1.out).mono ?_
  rintro e u3 ⟨rfl, h3⟩
  clear c0b0 c1b0 c0b1 c1b1 c0b2 c1b2
  have ch4 := ch3.trans (h3.mono ch3.size)
  replace b0 := b0.below h3 b0.lt
  replace b1 := b1.below h3 b1.lt
  replace b2 := b2.below h3 b2.lt
  replace zp := zp.below h3
  replace zq := zq.below h3
  replace zt := zt.below h3
  go_wp2
  have b0_4_0 := b0.drew
  have b1_4_0 := b1.drew
  have b2_4_0 := b2.drew
  have zp_4_0 := whz_drew zp
  have zq_4_0 := whz_drew zq
  have zt_4_0 := whz_drew zt
  have ch_4_0 := ch4.drew
  have kk_4_0 := cells6 b0_4_0 b1_4_0 b2_4_0
  go_region_held3 (fun w' => w'.cell? ⟨w.heap.size, 0, none⟩ = some (.bool x) ∧ w'.cell? ⟨w.heap.size, 1, none⟩ = some (.slice A na ca) ∧ w'.cell? ⟨(w.heap.size + 1), 0, none⟩ = some (.bool y) ∧ w'.cell? ⟨(w.heap.size + 1), 1, none⟩ = some (.slice B nb cb) ∧ w'.cell? ⟨(w.heap.size + 2), 0, none⟩ = some (.bool z) ∧ w'.cell? ⟨(w.heap.size + 2), 1, none⟩ = some (.slice C nc cc))
    (first | (with_reducible exact kk_4_8) | (with_reducible exact kk_4_7) | (with_reducible exact kk_4_6) | (with_reducible exact kk_4_5) | (with_reducible exact kk_4_4) | (with_reducible exact kk_4_3) | (with_reducible exact kk_4_2) | (with_reducible exact kk_4_1) | (with_reducible exact kk_4_0))
    (first | (have _guard := kk_4_7; clear _guard; go_at_call 33; refine (cmp_l ze_4_7 zf_4_7 k2 k3 o5.out).mono ?_; rintro e w_4_8 ⟨rfl, hb_4_8⟩; have b0_4_8 := b0_4_7.below hb_4_8 b0_4_7.lt; have b1_4_8 := b1_4_7.below hb_4_8 b1_4_7.lt; have b2_4_8 := b2_4_7.below hb_4_8 b2_4_7.lt; have zp_4_8 := zp_4_7.below hb_4_8; have zq_4_8 := zq_4_7.below hb_4_8; have zt_4_8 := zt_4_7.below hb_4_8; have zd_4_8 := zd_4_7.below hb_4_8; have zo_4_8 := zo_4_7.below hb_4_8; have ze_4_8 := ze_4_7.below hb_4_8; have zf_4_8 := zf_4_7.below hb_4_8; have ch_4_8 := ch_4_7.trans (hb_4_8.mono ch_4_7.size); have kk_4_8 := cells6 b0_4_8 b1_4_8 b2_4_8) | (have _guard := kk_4_6; clear _guard; go_at_call 31; refine (sumv zq_4_6 zt_4_6 kq kt k3).mono ?_; rintro e w_4_7 ⟨vzf, rfl, zf_4_7, hb_4_7⟩; have b0_4_7 := b0_4_6.below hb_4_7 b0_4_6.lt; have b1_4_7 := b1_4_6.below hb_4_7 b1_4_6.lt; have b2_4_7 := b2_4_6.below hb_4_7 b2_4_6.lt; have zp_4_7 := zp_4_6.below hb_4_7; have zq_4_7 := zq_4_6.below hb_4_7; have zt_4_7 := zt_4_6.below hb_4_7; have zd_4_7 := zd_4_6.below hb_4_7; have zo_4_7 := zo_4_6.below hb_4_7; have ze_4_7 := ze_4_6.below hb_4_7; have ch_4_7 := ch_4_6.trans (hb_4_7.mono ch_4_6.size); have kk_4_7 := cells6 b0_4_7 b1_4_7 b2_4_7) | (have _guard := kk_4_5; clear _guard; go_at_call 31; refine (sumv zp_4_5 zt_4_5 kp kt k2).mono ?_; rintro e w_4_6 ⟨vze, rfl, ze_4_6, hb_4_6⟩; have b0_4_6 := b0_4_5.below hb_4_6 b0_4_5.lt; have b1_4_6 := b1_4_5.below hb_4_6 b1_4_5.lt; have b2_4_6 := b2_4_5.below hb_4_6 b2_4_5.lt; have zp_4_6 := zp_4_5.below hb_4_6; have zq_4_6 := zq_4_5.below hb_4_6; have zt_4_6 := zt_4_5.below hb_4_6; have zd_4_6 := zd_4_5.below hb_4_6; have zo_4_6 := zo_4_5.below hb_4_6; have ch_4_6 := ch_4_5.trans (hb_4_6.mono ch_4_5.size); have kk_4_6 := cells6 b0_4_6 b1_4_6 b2_4_6) | (have _guard := kk_4_4; clear _guard; go_at_call 33; refine (cmp_l zd_4_4 zo_4_4 k1 k0 o4.out).mono ?_; rintro e w_4_5 ⟨rfl, hb_4_5⟩; have b0_4_5 := b0_4_4.below hb_4_5 b0_4_4.lt; have b1_4_5 := b1_4_4.below hb_4_5 b1_4_4.lt; have b2_4_5 := b2_4_4.below hb_4_5 b2_4_4.lt; have zp_4_5 := zp_4_4.below hb_4_5; have zq_4_5 := zq_4_4.below hb_4_5; have zt_4_5 := zt_4_4.below hb_4_5; have zd_4_5 := zd_4_4.below hb_4_5; have zo_4_5 := zo_4_4.below hb_4_5; have ch_4_5 := ch_4_4.trans (hb_4_5.mono ch_4_4.size); have kk_4_5 := cells6 b0_4_5 b1_4_5 b2_4_5) | (have _guard := kk_4_3; clear _guard; go_at_call 25; refine (num_wh 0 _ (by omega) (by omega)).mono ?_; rintro e w_4_4 ⟨vzo, rfl, zo_4_4, hb_4_4⟩; have b0_4_4 := b0_4_3.below hb_4_4 b0_4_3.lt; have b1_4_4 := b1_4_3.below hb_4_4 b1_4_3.lt; have b2_4_4 := b2_4_3.below hb_4_4 b2_4_3.lt; have zp_4_4 := zp_4_3.below hb_4_4; have zq_4_4 := zq_4_3.below hb_4_4; have zt_4_4 := zt_4_3.below hb_4_4; have zd_4_4 := zd_4_3.below hb_4_4; have ch_4_4 := ch_4_3.trans (hb_4_4.mono ch_4_3.size); have kk_4_4 := cells6 b0_4_4 b1_4_4 b2_4_4) | (have _guard := kk_4_2; clear _guard; go_at_call 34; refine (lessv zp_4_2 zq_4_2 kp kq k1).mono ?_; rintro e w_4_3 ⟨vzd, rfl, zd_4_3, hb_4_3⟩; have b0_4_3 := b0_4_2.below hb_4_3 b0_4_2.lt; have b1_4_3 := b1_4_2.below hb_4_3 b1_4_2.lt; have b2_4_3 := b2_4_2.below hb_4_3 b2_4_2.lt; have zp_4_3 := zp_4_2.below hb_4_3; have zq_4_3 := zq_4_2.below hb_4_3; have zt_4_3 := zt_4_2.below hb_4_3; have ch_4_3 := ch_4_2.trans (hb_4_3.mono ch_4_2.size); have kk_4_3 := cells6 b0_4_3 b1_4_3 b2_4_3) | (have _guard := kk_4_1; clear _guard; go_at_call 35; refine (same_l zp_4_1 zq_4_1 o3.out).mono ?_; rintro e w_4_2 ⟨rfl, hb_4_2⟩; have b0_4_2 := b0_4_1.below hb_4_2 b0_4_1.lt; have b1_4_2 := b1_4_1.below hb_4_2 b1_4_1.lt; have b2_4_2 := b2_4_1.below hb_4_2 b2_4_1.lt; have zp_4_2 := zp_4_1.below hb_4_2; have zq_4_2 := zq_4_1.below hb_4_2; have zt_4_2 := zt_4_1.below hb_4_2; have ch_4_2 := ch_4_1.trans (hb_4_2.mono ch_4_1.size); have kk_4_2 := cells6 b0_4_2 b1_4_2 b2_4_2) | (go_at_call 33; refine (cmp_l zq_4_0 zp_4_0 kq kp o2.out).mono ?_; rintro e w_4_1 ⟨rfl, hb_4_1⟩; have b0_4_1 := b0_4_0.below hb_4_1 b0_4_0.lt; have b1_4_1 := b1_4_0.below hb_4_1 b1_4_0.lt; have b2_4_1 := b2_4_0.below hb_4_1 b2_4_0.lt; have zp_4_1 := zp_4_0.below hb_4_1; have zq_4_1 := zq_4_0.below hb_4_1; have zt_4_1 := zt_4_0.below hb_4_1; have ch_4_1 := ch_4_0.trans (hb_4_1.mono ch_4_0.size); have kk_4_1 := cells6 b0_4_1 b1_4_1 b2_4_1))
  replace b0 := b0_4_8
  replace b1 := b1_4_8
  replace b2 := b2_4_8
  replace zp := zp_4_8
  replace zq := zq_4_8
  replace zt := zt_4_8
  have zd := zd_4_8
  have zo := zo_4_8
  have ze := ze_4_8
  have zf := zf_4_8
  have ch5 := ch_4_8
  clear b0_4_8 b0_4_7 b0_4_6 b0_4_5 b0_4_4 b0_4_3 b0_4_2 b0_4_1 b0_4_0 b1_4_8 b1_4_7 b1_4_6 b1_4_5 b1_4_4 b1_4_3 b1_4_2 b1_4_1 b1_4_0 b2_4_8 b2_4_7 b2_4_6 b2_4_5 b2_4_4 b2_4_3 b2_4_2 b2_4_1 b2_4_0 zp_4_8 zp_4_7 zp_4_6 zp_4_5 zp_4_4 zp_4_3 zp_4_2 zp_4_1 zp_4_0 zq_4_8 zq_4_7 zq_4_6 zq_4_5 zq_4_4 zq_4_3 zq_4_2 zq_4_1 zq_4_0 zt_4_8 zt_4_7 zt_4_6 zt_4_5 zt_4_4 zt_4_3 zt_4_2 zt_4_1 zt_4_0 zd_4_8 zd_4_7 zd_4_6 zd_4_5 zd_4_4 zd_4_3 zo_4_8 zo_4_7 zo_4_6 zo_4_5 zo_4_4 ze_4_8 ze_4_7 ze_4_6 zf_4_8 zf_4_7 kk_4_8 kk_4_7 kk_4_6 kk_4_5 kk_4_4 kk_4_3 kk_4_2 kk_4_1 kk_4_0 hb_4_8 hb_4_7 hb_4_6 hb_4_5 hb_4_4 hb_4_3 hb_4_2 hb_4_1 ch_4_8 ch_4_7 ch_4_6 ch_4_5 ch_4_4 ch_4_3 ch_4_2 ch_4_1 ch_4_0
  clear zd zo ze zf
  go_wp2
  have b0_5_0 := b0.drew
  have b1_5_0 := b1.drew
  have b2_5_0 := b2.drew
  have zp_5_0 := whz_drew zp
  have zq_5_0 := whz_drew zq
  have zt_5_0 := whz_drew zt
  have ch_5_0 := ch5.drew
  have kk_5_0 := cells6 b0_5_0 b1_5_0 b2_5_0
  go_region_held3 (fun w' => w'.cell? ⟨w.heap.size, 0, none⟩ = some (.bool x) ∧ w'.cell? ⟨w.heap.size, 1, none⟩ = some (.slice A na ca) ∧ w'.cell? ⟨(w.heap.size + 1), 0, none⟩ = some (.bool y) ∧ w'.cell? ⟨(w.heap.size + 1), 1, none⟩ = some (.slice B nb cb) ∧ w'.cell? ⟨(w.heap.size + 2), 0, none⟩ = some (.bool z) ∧ w'.cell? ⟨(w.heap.size + 2), 1, none⟩ = some (.slice C nc cc))
    (first | (with_reducible exact kk_5_5) | (with_reducible exact kk_5_4) | (with_reducible exact kk_5_3) | (with_reducible exact kk_5_2) | (with_reducible exact kk_5_1) | (with_reducible exact kk_5_0))
    (first | (have _guard := kk_5_4; clear _guard; go_at_call 33; refine (cmp_l zg_5_4 zh_5_4 k4 k5 o6.out).mono ?_; rintro e w_5_5 ⟨rfl, hb_5_5⟩; have b0_5_5 := b0_5_4.below hb_5_5 b0_5_4.lt; have b1_5_5 := b1_5_4.below hb_5_5 b1_5_4.lt; have b2_5_5 := b2_5_4.below hb_5_5 b2_5_4.lt; have zp_5_5 := zp_5_4.below hb_5_5; have zq_5_5 := zq_5_4.below hb_5_5; have zt_5_5 := zt_5_4.below hb_5_5; have zm_5_5 := zm_5_4.below hb_5_5; have zg_5_5 := zg_5_4.below hb_5_5; have zn_5_5 := zn_5_4.below hb_5_5; have zh_5_5 := zh_5_4.below hb_5_5; have ch_5_5 := ch_5_4.trans (hb_5_5.mono ch_5_4.size); have kk_5_5 := cells6 b0_5_5 b1_5_5 b2_5_5) | (have _guard := kk_5_3; clear _guard; go_at_call 32; refine (prodv zq_5_3 zn_5_3 kq kn k5).mono ?_; rintro e w_5_4 ⟨vzh, rfl, zh_5_4, hb_5_4⟩; have b0_5_4 := b0_5_3.below hb_5_4 b0_5_3.lt; have b1_5_4 := b1_5_3.below hb_5_4 b1_5_3.lt; have b2_5_4 := b2_5_3.below hb_5_4 b2_5_3.lt; have zp_5_4 := zp_5_3.below hb_5_4; have zq_5_4 := zq_5_3.below hb_5_4; have zt_5_4 := zt_5_3.below hb_5_4; have zm_5_4 := zm_5_3.below hb_5_4; have zg_5_4 := zg_5_3.below hb_5_4; have zn_5_4 := zn_5_3.below hb_5_4; have ch_5_4 := ch_5_3.trans (hb_5_4.mono ch_5_3.size); have kk_5_4 := cells6 b0_5_4 b1_5_4 b2_5_4) | (have _guard := kk_5_2; clear _guard; go_at_call 25; refine (num_wh (-1) _ (by omega) (by omega)).mono ?_; rintro e w_5_3 ⟨vzn, rfl, zn_5_3, hb_5_3⟩; have b0_5_3 := b0_5_2.below hb_5_3 b0_5_2.lt; have b1_5_3 := b1_5_2.below hb_5_3 b1_5_2.lt; have b2_5_3 := b2_5_2.below hb_5_3 b2_5_2.lt; have zp_5_3 := zp_5_2.below hb_5_3; have zq_5_3 := zq_5_2.below hb_5_3; have zt_5_3 := zt_5_2.below hb_5_3; have zm_5_3 := zm_5_2.below hb_5_3; have zg_5_3 := zg_5_2.below hb_5_3; have ch_5_3 := ch_5_2.trans (hb_5_3.mono ch_5_2.size); have kk_5_3 := cells6 b0_5_3 b1_5_3 b2_5_3) | (have _guard := kk_5_1; clear _guard; go_at_call 32; refine (prodv zp_5_1 zm_5_1 kp kn k4).mono ?_; rintro e w_5_2 ⟨vzg, rfl, zg_5_2, hb_5_2⟩; have b0_5_2 := b0_5_1.below hb_5_2 b0_5_1.lt; have b1_5_2 := b1_5_1.below hb_5_2 b1_5_1.lt; have b2_5_2 := b2_5_1.below hb_5_2 b2_5_1.lt; have zp_5_2 := zp_5_1.below hb_5_2; have zq_5_2 := zq_5_1.below hb_5_2; have zt_5_2 := zt_5_1.below hb_5_2; have zm_5_2 := zm_5_1.below hb_5_2; have ch_5_2 := ch_5_1.trans (hb_5_2.mono ch_5_1.size); have kk_5_2 := cells6 b0_5_2 b1_5_2 b2_5_2) | (go_at_call 25; refine (num_wh (-1) _ (by omega) (by omega)).mono ?_; rintro e w_5_1 ⟨vzm, rfl, zm_5_1, hb_5_1⟩; have b0_5_1 := b0_5_0.below hb_5_1 b0_5_0.lt; have b1_5_1 := b1_5_0.below hb_5_1 b1_5_0.lt; have b2_5_1 := b2_5_0.below hb_5_1 b2_5_0.lt; have zp_5_1 := zp_5_0.below hb_5_1; have zq_5_1 := zq_5_0.below hb_5_1; have zt_5_1 := zt_5_0.below hb_5_1; have ch_5_1 := ch_5_0.trans (hb_5_1.mono ch_5_0.size); have kk_5_1 := cells6 b0_5_1 b1_5_1 b2_5_1))
  replace b0 := b0_5_5
  replace b1 := b1_5_5
  replace b2 := b2_5_5
  replace zp := zp_5_5
  replace zq := zq_5_5
  replace zt := zt_5_5
  have zm := zm_5_5
  have zg := zg_5_5
  have zn := zn_5_5
  have zh := zh_5_5
  have ch6 := ch_5_5
  clear b0_5_5 b0_5_4 b0_5_3 b0_5_2 b0_5_1 b0_5_0 b1_5_5 b1_5_4 b1_5_3 b1_5_2 b1_5_1 b1_5_0 b2_5_5 b2_5_4 b2_5_3 b2_5_2 b2_5_1 b2_5_0 zp_5_5 zp_5_4 zp_5_3 zp_5_2 zp_5_1 zp_5_0 zq_5_5 zq_5_4 zq_5_3 zq_5_2 zq_5_1 zq_5_0 zt_5_5 zt_5_4 zt_5_3 zt_5_2 zt_5_1 zt_5_0 zm_5_5 zm_5_4 zm_5_3 zm_5_2 zm_5_1 zg_5_5 zg_5_4 zg_5_3 zg_5_2 zn_5_5 zn_5_4 zn_5_3 zh_5_5 zh_5_4 kk_5_5 kk_5_4 kk_5_3 kk_5_2 kk_5_1 kk_5_0 hb_5_5 hb_5_4 hb_5_3 hb_5_2 hb_5_1 ch_5_5 ch_5_4 ch_5_3 ch_5_2 ch_5_1 ch_5_0
  clear zm zg zn zh
  rcases cmpZ_cases q t with h | h | h
  · have oH : Hid (cmpZ q t = -1) := h
    clear h
    have c0b0 := (b0.cell 0).trans (b := some (Value.bool x)) rfl
    have c1b0 := (b0.cell 1).trans (b := some (Value.slice A na ca)) rfl
    have c0b1 := (b1.cell 0).trans (b := some (Value.bool y)) rfl
    have c1b1 := (b1.cell 1).trans (b := some (Value.slice B nb cb)) rfl
    have c0b2 := (b2.cell 0).trans (b := some (Value.bool z)) rfl
    have c1b2 := (b2.cell 1).trans (b := some (Value.slice C nc cc)) rfl
    go_wp2_with fail
    refine (cmp_l zq zt kq kt oH.out).mono ?_
    rintro e u6 ⟨rfl, h6⟩
    clear c0b0 c1b0 c0b1 c1b1 c0b2 c1b2
    have ch7 := ch6.trans (h6.mono ch6.size)
    replace b0 := b0.below h6 b0.lt
    replace b1 := b1.below h6 b1.lt
    replace b2 := b2.below h6 b2.lt
    replace zp := zp.below h6
    replace zq := zq.below h6
    replace zt := zt.below h6
    go_wp2
    go_ret
    exact ⟨rfl, ch7⟩
  · have oH : Hid (cmpZ q t = 0) := h
    clear h
    have c0b0 := (b0.cell 0).trans (b := some (Value.bool x)) rfl
    have c1b0 := (b0.cell 1).trans (b := some (Value.slice A na ca)) rfl
    have c0b1 := (b1.cell 0).trans (b := some (Value.bool y)) rfl
    have c1b1 := (b1.cell 1).trans (b := some (Value.slice B nb cb)) rfl
    have c0b2 := (b2.cell 0).trans (b := some (Value.bool z)) rfl
    have c1b2 := (b2.cell 1).trans (b := some (Value.slice C nc cc)) rfl
    go_wp2_with fail
    refine (cmp_l zq zt kq kt oH.out).mono ?_
    rintro e u7 ⟨rfl, h7⟩
    clear c0b0 c1b0 c0b1 c1b1 c0b2 c1b2
    have ch7 := ch6.trans (h7.mono ch6.size)
    replace b0 := b0.below h7 b0.lt
    replace b1 := b1.below h7 b1.lt
    replace b2 := b2.below h7 b2.lt
    replace zp := zp.below h7
    replace zq := zq.below h7
    replace zt := zt.below h7
    go_wp2
    go_ret
    exact ⟨rfl, ch7⟩
  · have oH : Hid (cmpZ q t = 1) := h
    clear h
    have c0b0 := (b0.cell 0).trans (b := some (Value.bool x)) rfl
    have c1b0 := (b0.cell 1).trans (b := some (Value.slice A na ca)) rfl
    have c0b1 := (b1.cell 0).trans (b := some (Value.bool y)) rfl
    have c1b1 := (b1.cell 1).trans (b := some (Value.slice B nb cb)) rfl
    have c0b2 := (b2.cell 0).trans (b := some (Value.bool z)) rfl
    have c1b2 := (b2.cell 1).trans (b := some (Value.slice C nc cc)) rfl
    go_wp2_with fail
    refine (cmp_l zq zt kq kt oH.out).mono ?_
    rintro e u8 ⟨rfl, h8⟩
    clear c0b0 c1b0 c0b1 c1b1 c0b2 c1b2
    have ch7 := ch6.trans (h8.mono ch6.size)
    replace b0 := b0.below h8 b0.lt
    replace b1 := b1.below h8 b1.lt
    replace b2 := b2.below h8 b2.lt
    replace zp := zp.below h8
    replace zq := zq.below h8
    replace zt := zt.below h8
    have c0b0 := (b0.cell 0).trans (b := some (Value.bool x)) rfl
    have c1b0 := (b0.cell 1).trans (b := some (Value.slice A na ca)) rfl
    have c0b1 := (b1.cell 0).trans (b := some (Value.bool y)) rfl
    have c1b1 := (b1.cell 1).trans (b := some (Value.slice B nb cb)) rfl
    have c0b2 := (b2.cell 0).trans (b := some (Value.bool z)) rfl
    have c1b2 := (b2.cell 1).trans (b := some (Value.slice C nc cc)) rfl
    go_wp2_with fail
    refine (cmp_l zp zt kp kt (o7.out oH.out)).mono ?_
    rintro e u9 ⟨rfl, h9⟩
    clear c0b0 c1b0 c0b1 c1b1 c0b2 c1b2
    have ch8 := ch7.trans (h9.mono ch7.size)
    replace b0 := b0.below h9 b0.lt
    replace b1 := b1.below h9 b1.lt
    replace b2 := b2.below h9 b2.lt
    replace zp := zp.below h9
    replace zq := zq.below h9
    replace zt := zt.below h9
    go_wp2
    go_ret
    exact ⟨rfl, ch8⟩

theorem order_any {w : World} {va vb vc : Value} {x y z : Bool} {la lb lc : List Nat} (ha : Wh w va x la) (hb : Wh w vb y lb) (hc : Wh w vc z lc) :
    Calls Try.prog 7 #[va, vb, vc] w fun e w' => e = .returned (.bool true) ∧ Below w.heap.size w w' := by
  obtain ⟨A, ca, rfl, sa⟩ := ha
  obtain ⟨B, cb, rfl, sb⟩ := hb
  obtain ⟨C, cc, rfl, sc⟩ := hc
  cases hu : (uB 200 x la && uB 200 y lb && uB 200 z lc) with
  | false => exact order_not sa rfl sb rfl sc rfl hu
  | true =>
    simp only [Bool.and_eq_true] at hu
    rcases Int.lt_trichotomy (zv x la) (zv y lb) with h | h | h
    · exact order_lt sa rfl sb rfl sc rfl hu.1.1 hu.1.2 hu.2 h
    · exact order_eq sa rfl sb rfl sc rfl hu.1.1 hu.1.2 hu.2 h
    · exact order_gt sa rfl sb rfl sc rfl hu.1.1 hu.1.2 hu.2 h
end Go.Proofs.Ytgnidjhfiagfnaa
