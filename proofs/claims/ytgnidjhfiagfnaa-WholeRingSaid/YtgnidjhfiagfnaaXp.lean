/- WholeRing's function returns true. Conditions: the numbers lie in memory. -/
import Derived.Test.YtgnidjhfiagfnaaXn
import Derived.Deep.RegionHeld3
namespace Go.Proofs.Ytgnidjhfiagfnaa
open Go.RowKit

set_option maxRecDepth 100000 in
set_option maxHeartbeats 20000000 in
theorem ring_not {x y z : Bool} {la lb lc : List Nat} {A B C : Option Addr} {na ca nb cb nc cc : Nat} {w : World} (sa : Sl w (.slice A na ca) la) (hna : Hid (la.length = na)) (sb : Sl w (.slice B nb cb) lb) (hnb : Hid (lb.length = nb)) (sc : Sl w (.slice C nc cc) lc) (hnc : Hid (lc.length = nc)) (hu : (uB 100 x la && uB 100 y lb && uB 100 z lc) = false) :
  Calls Try.prog 6 #[.agg #[.bool x, .slice A na ca], .agg #[.bool y, .slice B nb cb], .agg #[.bool z, .slice C nc cc]] w fun e w' => e = .returned (.bool true) ∧ Below w.heap.size w w' := by
  have b0 : Blk (((w.alloc (.cells #[.bool x, .slice A na ca] 26)).alloc (.cells #[.bool y, .slice B nb cb] 26)).alloc (.cells #[.bool z, .slice C nc cc] 26)) w.heap.size 26 #[.bool x, .slice A na ca] := by
    have := (((Blk.new w 26 #[.bool x, .slice A na ca]).alloc (.cells #[.bool y, .slice B nb cb] 26)).alloc (.cells #[.bool z, .slice C nc cc] 26))
    exact this
  have b1 : Blk (((w.alloc (.cells #[.bool x, .slice A na ca] 26)).alloc (.cells #[.bool y, .slice B nb cb] 26)).alloc (.cells #[.bool z, .slice C nc cc] 26)) (w.heap.size + 1) 26 #[.bool y, .slice B nb cb] := by
    have := ((Blk.new (w.alloc (.cells #[.bool x, .slice A na ca] 26)) 26 #[.bool y, .slice B nb cb]).alloc (.cells #[.bool z, .slice C nc cc] 26))
    rwa [World.size_alloc] at this
  have b2 : Blk (((w.alloc (.cells #[.bool x, .slice A na ca] 26)).alloc (.cells #[.bool y, .slice B nb cb] 26)).alloc (.cells #[.bool z, .slice C nc cc] 26)) (w.heap.size + 2) 26 #[.bool z, .slice C nc cc] := by
    have := (Blk.new ((w.alloc (.cells #[.bool x, .slice A na ca] 26)).alloc (.cells #[.bool y, .slice B nb cb] 26)) 26 #[.bool z, .slice C nc cc])
    rwa [World.size_alloc, World.size_alloc] at this
  have bw : Below w.heap.size w (((w.alloc (.cells #[.bool x, .slice A na ca] 26)).alloc (.cells #[.bool y, .slice B nb cb] 26)).alloc (.cells #[.bool z, .slice C nc cc] 26)) := (by repeat (first | exact Below.refl _ _ | assumption | refine Below.alloc ?_ (by first | (simp; done) | (simp; omega) | omega) _ | refine Below.setCell ?_ (by first | (simp; done) | (simp; omega) | omega) _ | refine Below.drew ?_))
  replace sa := sa.below bw
  replace sb := sb.below bw
  replace sc := sc.below bw
  go_enter Try.func6, Try.ntmps6
  go_wp2_with fail
  refine (awake_any _).mono ?_
  rintro e u1 ⟨rfl, h1⟩
  have ch1 := bw.trans (h1.mono bw.size)
  replace b0 := b0.below h1 b0.lt
  replace b1 := b1.below h1 b1.lt
  replace b2 := b2.below h1 b2.lt
  replace sa := sa.below h1
  replace sb := sb.below h1
  replace sc := sc.below h1
  have c0b0 := (b0.cell 0).trans (b := some (Value.bool x)) rfl
  have c1b0 := (b0.cell 1).trans (b := some (Value.slice A na ca)) rfl
  have c0b1 := (b1.cell 0).trans (b := some (Value.bool y)) rfl
  have c1b1 := (b1.cell 1).trans (b := some (Value.slice B nb cb)) rfl
  have c0b2 := (b2.cell 0).trans (b := some (Value.bool z)) rfl
  have c1b2 := (b2.cell 1).trans (b := some (Value.slice C nc cc)) rfl
  have al : Below u1.heap.size u1 (u1.alloc (.cells #[.bool x, .slice A na ca, .bool y, .slice B nb cb, .bool z, .slice C nc cc] 26)) := (Below.refl _ _).alloc (Nat.le_refl _) _
  have bk : Blk (u1.alloc (.cells #[.bool x, .slice A na ca, .bool y, .slice B nb cb, .bool z, .slice C nc cc] 26)) u1.heap.size 26 #[.bool x, .slice A na ca, .bool y, .slice B nb cb, .bool z, .slice C nc cc] := Blk.new _ _ _
  go_wp2_with fail
  clear c0b0 c1b0 c0b1 c1b1 c0b2 c1b2
  have ch2 := ch1.trans (al.mono ch1.size)
  replace b0 := b0.below al b0.lt
  replace b1 := b1.below al b1.lt
  replace b2 := b2.below al b2.lt
  replace sa := sa.below al
  replace sb := sb.below al
  replace sc := sc.below al
  refine (usable3 (most := 100) (by omega) sa hna sb hnb sc hnc bk).mono ?_
  rintro e u2 ⟨rfl, h2⟩
  rw [hu]
  clear bk al
  have ch3 := ch2.trans (h2.mono ch2.size)
  replace b0 := b0.below h2 b0.lt
  replace b1 := b1.below h2 b1.lt
  replace b2 := b2.below h2 b2.lt
  replace sa := sa.below h2
  replace sb := sb.below h2
  replace sc := sc.below h2
  go_wp2
  go_ret
  exact ⟨rfl, ch3⟩

set_option maxRecDepth 100000 in
set_option maxHeartbeats 20000000 in
theorem ring_ok {x y z : Bool} {la lb lc : List Nat} {A B C : Option Addr} {na ca nb cb nc cc : Nat} {w : World} (sa : Sl w (.slice A na ca) la) (hna : Hid (la.length = na)) (sb : Sl w (.slice B nb cb) lb) (hnb : Hid (lb.length = nb)) (sc : Sl w (.slice C nc cc) lc) (hnc : Hid (lc.length = nc)) (hu0 : uB 100 x la = true) (hu1 : uB 100 y lb = true) (hu2 : uB 100 z lc = true) :
  Calls Try.prog 6 #[.agg #[.bool x, .slice A na ca], .agg #[.bool y, .slice B nb cb], .agg #[.bool z, .slice C nc cc]] w fun e w' => e = .returned (.bool true) ∧ Below w.heap.size w w' := by
  have b0 : Blk (((w.alloc (.cells #[.bool x, .slice A na ca] 26)).alloc (.cells #[.bool y, .slice B nb cb] 26)).alloc (.cells #[.bool z, .slice C nc cc] 26)) w.heap.size 26 #[.bool x, .slice A na ca] := by
    have := (((Blk.new w 26 #[.bool x, .slice A na ca]).alloc (.cells #[.bool y, .slice B nb cb] 26)).alloc (.cells #[.bool z, .slice C nc cc] 26))
    exact this
  have b1 : Blk (((w.alloc (.cells #[.bool x, .slice A na ca] 26)).alloc (.cells #[.bool y, .slice B nb cb] 26)).alloc (.cells #[.bool z, .slice C nc cc] 26)) (w.heap.size + 1) 26 #[.bool y, .slice B nb cb] := by
    have := ((Blk.new (w.alloc (.cells #[.bool x, .slice A na ca] 26)) 26 #[.bool y, .slice B nb cb]).alloc (.cells #[.bool z, .slice C nc cc] 26))
    rwa [World.size_alloc] at this
  have b2 : Blk (((w.alloc (.cells #[.bool x, .slice A na ca] 26)).alloc (.cells #[.bool y, .slice B nb cb] 26)).alloc (.cells #[.bool z, .slice C nc cc] 26)) (w.heap.size + 2) 26 #[.bool z, .slice C nc cc] := by
    have := (Blk.new ((w.alloc (.cells #[.bool x, .slice A na ca] 26)).alloc (.cells #[.bool y, .slice B nb cb] 26)) 26 #[.bool z, .slice C nc cc])
    rwa [World.size_alloc, World.size_alloc] at this
  have bw : Below w.heap.size w (((w.alloc (.cells #[.bool x, .slice A na ca] 26)).alloc (.cells #[.bool y, .slice B nb cb] 26)).alloc (.cells #[.bool z, .slice C nc cc] 26)) := (by repeat (first | exact Below.refl _ _ | assumption | refine Below.alloc ?_ (by first | (simp; done) | (simp; omega) | omega) _ | refine Below.setCell ?_ (by first | (simp; done) | (simp; omega) | omega) _ | refine Below.drew ?_))
  replace sa := sa.below bw
  replace sb := sb.below bw
  replace sc := sc.below bw
  have hu : (uB 100 x la && uB 100 y lb && uB 100 z lc) = true := by rw [hu0, hu1, hu2]; rfl
  go_enter Try.func6, Try.ntmps6
  go_wp2_with fail
  refine (awake_any _).mono ?_
  rintro e u1 ⟨rfl, h1⟩
  have ch1 := bw.trans (h1.mono bw.size)
  replace b0 := b0.below h1 b0.lt
  replace b1 := b1.below h1 b1.lt
  replace b2 := b2.below h1 b2.lt
  replace sa := sa.below h1
  replace sb := sb.below h1
  replace sc := sc.below h1
  have c0b0 := (b0.cell 0).trans (b := some (Value.bool x)) rfl
  have c1b0 := (b0.cell 1).trans (b := some (Value.slice A na ca)) rfl
  have c0b1 := (b1.cell 0).trans (b := some (Value.bool y)) rfl
  have c1b1 := (b1.cell 1).trans (b := some (Value.slice B nb cb)) rfl
  have c0b2 := (b2.cell 0).trans (b := some (Value.bool z)) rfl
  have c1b2 := (b2.cell 1).trans (b := some (Value.slice C nc cc)) rfl
  have al : Below u1.heap.size u1 (u1.alloc (.cells #[.bool x, .slice A na ca, .bool y, .slice B nb cb, .bool z, .slice C nc cc] 26)) := (Below.refl _ _).alloc (Nat.le_refl _) _
  have bk : Blk (u1.alloc (.cells #[.bool x, .slice A na ca, .bool y, .slice B nb cb, .bool z, .slice C nc cc] 26)) u1.heap.size 26 #[.bool x, .slice A na ca, .bool y, .slice B nb cb, .bool z, .slice C nc cc] := Blk.new _ _ _
  go_wp2_with fail
  clear c0b0 c1b0 c0b1 c1b1 c0b2 c1b2
  have ch2 := ch1.trans (al.mono ch1.size)
  replace b0 := b0.below al b0.lt
  replace b1 := b1.below al b1.lt
  replace b2 := b2.below al b2.lt
  replace sa := sa.below al
  replace sb := sb.below al
  replace sc := sc.below al
  refine (usable3 (most := 100) (by omega) sa hna sb hnb sc hnc bk).mono ?_
  rintro e u2 ⟨rfl, h2⟩
  rw [hu]
  clear bk al
  have ch3 := ch2.trans (h2.mono ch2.size)
  replace b0 := b0.below h2 b0.lt
  replace b1 := b1.below h2 b1.lt
  replace b2 := b2.below h2 b2.lt
  replace sa := sa.below h2
  replace sb := sb.below h2
  replace sc := sc.below h2
  have hz0 := uB_lz (wh_of_sl (x := x) sa hna) hu0
  obtain ⟨p, hp⟩ : ∃ p, zv x la = p := ⟨_, rfl⟩
  rw [hp] at hz0
  have zp := hz0.2.1
  have lzp_ : Hid (Lz 100 p) := hz0.2.2
  have kzp_ : Hid (Lz 1024 p) := lzp_.out.mono (by omega)
  have hz1 := uB_lz (wh_of_sl (x := y) sb hnb) hu1
  obtain ⟨q, hq⟩ : ∃ q, zv y lb = q := ⟨_, rfl⟩
  rw [hq] at hz1
  have zq := hz1.2.1
  have lzq_ : Hid (Lz 100 q) := hz1.2.2
  have kzq_ : Hid (Lz 1024 q) := lzq_.out.mono (by omega)
  have hz2 := uB_lz (wh_of_sl (x := z) sc hnc) hu2
  obtain ⟨t, ht⟩ : ∃ t, zv z lc = t := ⟨_, rfl⟩
  rw [ht] at hz2
  have zt := hz2.2.1
  have lzt_ : Hid (Lz 100 t) := hz2.2.2
  have kzt_ : Hid (Lz 1024 t) := lzt_.out.mono (by omega)
  clear sa hna sb hnb sc hnc hu hu0 hz0 hp hu1 hz1 hq hu2 hz2 ht
  have la1_ : Hid (Lz 101 (p + q)) := ((lzp_.out.mono (k := 100) (by omega)).add (lzq_.out.mono (k := 100) (by omega)))
  have ka1_ : Hid (Lz 1024 (p + q)) := la1_.out.mono (by omega)
  have la2_ : Hid (Lz 101 (q + p)) := ((lzq_.out.mono (k := 100) (by omega)).add (lzp_.out.mono (k := 100) (by omega)))
  have ka2_ : Hid (Lz 1024 (q + p)) := la2_.out.mono (by omega)
  have q3_ : Hid ((p + q) = (q + p)) := Int.add_comm _ _
  have la3_ : Hid (Lz 200 (p * q)) := (lzp_.out.mul lzq_.out)
  have ka3_ : Hid (Lz 1024 (p * q)) := la3_.out.mono (by omega)
  have la4_ : Hid (Lz 200 (q * p)) := (lzq_.out.mul lzp_.out)
  have ka4_ : Hid (Lz 1024 (q * p)) := la4_.out.mono (by omega)
  have q4_ : Hid ((p * q) = (q * p)) := Int.mul_comm _ _
  have la5_ : Hid (Lz 101 (p + q)) := ((lzp_.out.mono (k := 100) (by omega)).add (lzq_.out.mono (k := 100) (by omega)))
  have ka5_ : Hid (Lz 1024 (p + q)) := la5_.out.mono (by omega)
  have la6_ : Hid (Lz 102 ((p + q) + t)) := ((la5_.out.mono (k := 101) (by omega)).add (lzt_.out.mono (k := 101) (by omega)))
  have ka6_ : Hid (Lz 1024 ((p + q) + t)) := la6_.out.mono (by omega)
  have la7_ : Hid (Lz 101 (q + t)) := ((lzq_.out.mono (k := 100) (by omega)).add (lzt_.out.mono (k := 100) (by omega)))
  have ka7_ : Hid (Lz 1024 (q + t)) := la7_.out.mono (by omega)
  have la8_ : Hid (Lz 102 (p + (q + t))) := ((lzp_.out.mono (k := 101) (by omega)).add (la7_.out.mono (k := 101) (by omega)))
  have ka8_ : Hid (Lz 1024 (p + (q + t))) := la8_.out.mono (by omega)
  have q5_ : Hid (((p + q) + t) = (p + (q + t))) := Int.add_assoc _ _ _
  have lg1_ : Hid (Lz 200 (p * q)) := (lzp_.out.mul lzq_.out)
  have kg1_ : Hid (Lz 1024 (p * q)) := lg1_.out.mono (by omega)
  have lg2_ : Hid (Lz 300 ((p * q) * t)) := (lg1_.out.mul lzt_.out)
  have kg2_ : Hid (Lz 1024 ((p * q) * t)) := lg2_.out.mono (by omega)
  have lg3_ : Hid (Lz 200 (q * t)) := (lzq_.out.mul lzt_.out)
  have kg3_ : Hid (Lz 1024 (q * t)) := lg3_.out.mono (by omega)
  have lg4_ : Hid (Lz 300 (p * (q * t))) := (lzp_.out.mul lg3_.out)
  have kg4_ : Hid (Lz 1024 (p * (q * t))) := lg4_.out.mono (by omega)
  have q6_ : Hid (((p * q) * t) = (p * (q * t))) := Int.mul_assoc _ _ _
  go_wp2
  replace b0 := b0.drew
  replace b1 := b1.drew
  replace b2 := b2.drew
  replace zp := whz_drew zp
  replace zq := whz_drew zq
  replace zt := whz_drew zt
  have ch_7_0 := ch3.drew
  clear ch3
  have kk_7_0 := cells6 b0 b1 b2
  refine wp_region_held_drew (S := fun w' => w'.cell? ⟨w.heap.size, 0, none⟩ = some (.bool x) ∧ w'.cell? ⟨w.heap.size, 1, none⟩ = some (.slice A na ca) ∧ w'.cell? ⟨(w.heap.size + 1), 0, none⟩ = some (.bool y) ∧ w'.cell? ⟨(w.heap.size + 1), 1, none⟩ = some (.slice B nb cb) ∧ w'.cell? ⟨(w.heap.size + 2), 0, none⟩ = some (.bool z) ∧ w'.cell? ⟨(w.heap.size + 2), 1, none⟩ = some (.slice C nc cc)) (by kernel_rfl) kk_7_0 (fun hH => ?_)
  clear kk_7_0
  refine wpAnyH_take (i := 0) (v := ?_) rfl (by kernel_rfl) (by kernel_rfl) (by kernel_rfl) (fun _ _ _ h => h) (Or.inl ⟨by rfl, ?_⟩) (by assumption) ?_
  rotate_left
  · intro w' hSw
    (try dsimp only at hSw)
    obtain ⟨q0, q1, q2, q3, q4, q5⟩ := hSw
    go_simp
    try with_reducible rfl
  (try simp only [List.getElem_toArray, List.getElem_cons_zero, List.getElem_cons_succ, Act.put, List.setIfInBounds_toArray, List.set_cons_zero, List.set_cons_succ])
  refine wpAnyH_take (i := 1) (v := ?_) rfl (by kernel_rfl) (by kernel_rfl) (by kernel_rfl) (fun _ _ _ h => h) (Or.inl ⟨by rfl, ?_⟩) (by assumption) ?_
  rotate_left
  · intro w' hSw
    (try dsimp only at hSw)
    obtain ⟨q0, q1, q2, q3, q4, q5⟩ := hSw
    go_simp
    try with_reducible rfl
  (try simp only [List.getElem_toArray, List.getElem_cons_zero, List.getElem_cons_succ, Act.put, List.setIfInBounds_toArray, List.set_cons_zero, List.set_cons_succ])
  refine wpAnyH_take (i := 3) (v := ?_) rfl (by kernel_rfl) (by kernel_rfl) (by kernel_rfl) (fun _ _ _ h => h) (Or.inl ⟨by rfl, ?_⟩) (by assumption) ?_
  rotate_left
  · intro w' hSw
    (try dsimp only at hSw)
    obtain ⟨q0, q1, q2, q3, q4, q5⟩ := hSw
    go_simp
    try with_reducible rfl
  (try simp only [List.getElem_toArray, List.getElem_cons_zero, List.getElem_cons_succ, Act.put, List.setIfInBounds_toArray, List.set_cons_zero, List.set_cons_succ])
  refine wpAnyH_take (i := 4) (v := ?_) rfl (by kernel_rfl) (by kernel_rfl) (by kernel_rfl) (fun _ _ _ h => h) (Or.inl ⟨by rfl, ?_⟩) (by assumption) ?_
  rotate_left
  · intro w' hSw
    (try dsimp only at hSw)
    obtain ⟨q0, q1, q2, q3, q4, q5⟩ := hSw
    go_simp
    try with_reducible rfl
  (try simp only [List.getElem_toArray, List.getElem_cons_zero, List.getElem_cons_succ, Act.put, List.setIfInBounds_toArray, List.set_cons_zero, List.set_cons_succ])
  refine wpAnyH_ready (rs := [2]) (by kernel_rfl) (by simp) ?_
  refine AllReadyH.cons rfl (fun K hK => ?_) AllReadyH.nil
  go_simp
  refine (sumv zp zq kzp_.out kzq_.out ka1_.out).mono ?_
  rintro e w_7_1 ⟨va1, rfl, a1, hb_7_1⟩
  replace b0 := b0.below hb_7_1 b0.lt
  replace b1 := b1.below hb_7_1 b1.lt
  replace b2 := b2.below hb_7_1 b2.lt
  replace zp := zp.below hb_7_1
  replace zq := zq.below hb_7_1
  replace zt := zt.below hb_7_1
  have ch_7_1 := ch_7_0.trans (hb_7_1.mono ch_7_0.size)
  refine hK.out _ _ (cells6 b0 b1 b2) (fun hH1 => ?_)
  clear hK K ch_7_0 hb_7_1 hH
  have hH := hH1
  clear hH1
  (try simp only [List.getElem_toArray, List.getElem_cons_zero, List.getElem_cons_succ, Act.put, List.setIfInBounds_toArray, List.set_cons_zero, List.set_cons_succ])
  refine wpAnyH_ready (rs := [5]) (by kernel_rfl) (by simp) ?_
  refine AllReadyH.cons rfl (fun K hK => ?_) AllReadyH.nil
  go_simp
  refine (sumv zq zp kzq_.out kzp_.out ka2_.out).mono ?_
  rintro e w_7_2 ⟨va2, rfl, a2, hb_7_2⟩
  replace b0 := b0.below hb_7_2 b0.lt
  replace b1 := b1.below hb_7_2 b1.lt
  replace b2 := b2.below hb_7_2 b2.lt
  replace zp := zp.below hb_7_2
  replace zq := zq.below hb_7_2
  replace zt := zt.below hb_7_2
  replace a1 := a1.below hb_7_2
  have ch_7_2 := ch_7_1.trans (hb_7_2.mono ch_7_1.size)
  refine hK.out _ _ (cells6 b0 b1 b2) (fun hH2 => ?_)
  clear hK K ch_7_1 hb_7_2 hH
  have hH := hH2
  clear hH2
  (try simp only [List.getElem_toArray, List.getElem_cons_zero, List.getElem_cons_succ, Act.put, List.setIfInBounds_toArray, List.set_cons_zero, List.set_cons_succ])
  refine wpAnyH_ready (rs := [6]) (by kernel_rfl) (by simp) ?_
  refine AllReadyH.cons rfl (fun K hK => ?_) AllReadyH.nil
  go_simp
  refine (equal_l a1 a2 ka1_.out ka2_.out q3_.out).mono ?_
  rintro e w_7_3 ⟨rfl, hb_7_3⟩
  replace b0 := b0.below hb_7_3 b0.lt
  replace b1 := b1.below hb_7_3 b1.lt
  replace b2 := b2.below hb_7_3 b2.lt
  replace zp := zp.below hb_7_3
  replace zq := zq.below hb_7_3
  replace zt := zt.below hb_7_3
  clear a1
  clear a2
  have ch_7_3 := ch_7_2.trans (hb_7_3.mono ch_7_2.size)
  refine hK.out _ _ (cells6 b0 b1 b2) (fun hH3 => ?_)
  clear hK K ch_7_2 hb_7_3 hH
  have hH := hH3
  clear hH3
  (try simp only [List.getElem_toArray, List.getElem_cons_zero, List.getElem_cons_succ, Act.put, List.setIfInBounds_toArray, List.set_cons_zero, List.set_cons_succ])
  refine wpAnyH_take (i := 7) (v := ?_) rfl (by kernel_rfl) (by kernel_rfl) (by kernel_rfl) (fun _ _ _ h => h) (Or.inl ⟨by rfl, ?_⟩) (by assumption) ?_
  rotate_left
  · intro w' hSw
    (try dsimp only at hSw)
    obtain ⟨q0, q1, q2, q3, q4, q5⟩ := hSw
    go_simp
    try with_reducible rfl
  (try simp only [List.getElem_toArray, List.getElem_cons_zero, List.getElem_cons_succ, Act.put, List.setIfInBounds_toArray, List.set_cons_zero, List.set_cons_succ])
  refine wpAnyH_take (i := 8) (v := ?_) rfl (by kernel_rfl) (by kernel_rfl) (by kernel_rfl) (fun _ _ _ h => h) (Or.inl ⟨by rfl, ?_⟩) (by assumption) ?_
  rotate_left
  · intro w' hSw
    (try dsimp only at hSw)
    obtain ⟨q0, q1, q2, q3, q4, q5⟩ := hSw
    go_simp
    try with_reducible rfl
  (try simp only [List.getElem_toArray, List.getElem_cons_zero, List.getElem_cons_succ, Act.put, List.setIfInBounds_toArray, List.set_cons_zero, List.set_cons_succ])
  refine wpAnyH_take (i := 9) (v := ?_) rfl (by kernel_rfl) (by kernel_rfl) (by kernel_rfl) (fun _ _ _ h => h) (Or.inl ⟨by rfl, ?_⟩) (by assumption) ?_
  rotate_left
  · intro w' hSw
    (try dsimp only at hSw)
    obtain ⟨q0, q1, q2, q3, q4, q5⟩ := hSw
    go_simp
    try with_reducible rfl
  (try simp only [List.getElem_toArray, List.getElem_cons_zero, List.getElem_cons_succ, Act.put, List.setIfInBounds_toArray, List.set_cons_zero, List.set_cons_succ])
  refine wpAnyH_take (i := 10) (v := ?_) rfl (by kernel_rfl) (by kernel_rfl) (by kernel_rfl) (fun _ _ _ h => h) (Or.inl ⟨by rfl, ?_⟩) (by assumption) ?_
  rotate_left
  · intro w' hSw
    (try dsimp only at hSw)
    obtain ⟨q0, q1, q2, q3, q4, q5⟩ := hSw
    go_simp
    try with_reducible rfl
  (try simp only [List.getElem_toArray, List.getElem_cons_zero, List.getElem_cons_succ, Act.put, List.setIfInBounds_toArray, List.set_cons_zero, List.set_cons_succ])
  refine wpAnyH_take (i := 12) (v := ?_) rfl (by kernel_rfl) (by kernel_rfl) (by kernel_rfl) (fun _ _ _ h => h) (Or.inl ⟨by rfl, ?_⟩) (by assumption) ?_
  rotate_left
  · intro w' hSw
    (try dsimp only at hSw)
    obtain ⟨q0, q1, q2, q3, q4, q5⟩ := hSw
    go_simp
    try with_reducible rfl
  (try simp only [List.getElem_toArray, List.getElem_cons_zero, List.getElem_cons_succ, Act.put, List.setIfInBounds_toArray, List.set_cons_zero, List.set_cons_succ])
  refine wpAnyH_take (i := 13) (v := ?_) rfl (by kernel_rfl) (by kernel_rfl) (by kernel_rfl) (fun _ _ _ h => h) (Or.inl ⟨by rfl, ?_⟩) (by assumption) ?_
  rotate_left
  · intro w' hSw
    (try dsimp only at hSw)
    obtain ⟨q0, q1, q2, q3, q4, q5⟩ := hSw
    go_simp
    try with_reducible rfl
  (try simp only [List.getElem_toArray, List.getElem_cons_zero, List.getElem_cons_succ, Act.put, List.setIfInBounds_toArray, List.set_cons_zero, List.set_cons_succ])
  refine wpAnyH_ready (rs := [11]) (by kernel_rfl) (by simp) ?_
  refine AllReadyH.cons rfl (fun K hK => ?_) AllReadyH.nil
  go_simp
  refine (prodv zp zq kzp_.out kzq_.out ka3_.out).mono ?_
  rintro e w_7_4 ⟨va3, rfl, a3, hb_7_4⟩
  replace b0 := b0.below hb_7_4 b0.lt
  replace b1 := b1.below hb_7_4 b1.lt
  replace b2 := b2.below hb_7_4 b2.lt
  replace zp := zp.below hb_7_4
  replace zq := zq.below hb_7_4
  replace zt := zt.below hb_7_4
  have ch_7_4 := ch_7_3.trans (hb_7_4.mono ch_7_3.size)
  refine hK.out _ _ (cells6 b0 b1 b2) (fun hH4 => ?_)
  clear hK K ch_7_3 hb_7_4 hH
  have hH := hH4
  clear hH4
  (try simp only [List.getElem_toArray, List.getElem_cons_zero, List.getElem_cons_succ, Act.put, List.setIfInBounds_toArray, List.set_cons_zero, List.set_cons_succ])
  refine wpAnyH_ready (rs := [14]) (by kernel_rfl) (by simp) ?_
  refine AllReadyH.cons rfl (fun K hK => ?_) AllReadyH.nil
  go_simp
  refine (prodv zq zp kzq_.out kzp_.out ka4_.out).mono ?_
  rintro e w_7_5 ⟨va4, rfl, a4, hb_7_5⟩
  replace b0 := b0.below hb_7_5 b0.lt
  replace b1 := b1.below hb_7_5 b1.lt
  replace b2 := b2.below hb_7_5 b2.lt
  replace zp := zp.below hb_7_5
  replace zq := zq.below hb_7_5
  replace zt := zt.below hb_7_5
  replace a3 := a3.below hb_7_5
  have ch_7_5 := ch_7_4.trans (hb_7_5.mono ch_7_4.size)
  refine hK.out _ _ (cells6 b0 b1 b2) (fun hH5 => ?_)
  clear hK K ch_7_4 hb_7_5 hH
  have hH := hH5
  clear hH5
  (try simp only [List.getElem_toArray, List.getElem_cons_zero, List.getElem_cons_succ, Act.put, List.setIfInBounds_toArray, List.set_cons_zero, List.set_cons_succ])
  refine wpAnyH_ready (rs := [15]) (by kernel_rfl) (by simp) ?_
  refine AllReadyH.cons rfl (fun K hK => ?_) AllReadyH.nil
  go_simp
  refine (equal_l a3 a4 ka3_.out ka4_.out q4_.out).mono ?_
  rintro e w_7_6 ⟨rfl, hb_7_6⟩
  replace b0 := b0.below hb_7_6 b0.lt
  replace b1 := b1.below hb_7_6 b1.lt
  replace b2 := b2.below hb_7_6 b2.lt
  replace zp := zp.below hb_7_6
  replace zq := zq.below hb_7_6
  replace zt := zt.below hb_7_6
  clear a3
  clear a4
  have ch_7_6 := ch_7_5.trans (hb_7_6.mono ch_7_5.size)
  refine hK.out _ _ (cells6 b0 b1 b2) (fun hH6 => ?_)
  clear hK K ch_7_5 hb_7_6 hH
  have hH := hH6
  clear hH6
  (try simp only [List.getElem_toArray, List.getElem_cons_zero, List.getElem_cons_succ, Act.put, List.setIfInBounds_toArray, List.set_cons_zero, List.set_cons_succ])
  refine wpAnyH_take (i := 16) (v := ?_) rfl (by kernel_rfl) (by kernel_rfl) (by kernel_rfl) (fun _ _ _ h => h) (Or.inl ⟨by rfl, ?_⟩) (by assumption) ?_
  rotate_left
  · intro w' hSw
    (try dsimp only at hSw)
    obtain ⟨q0, q1, q2, q3, q4, q5⟩ := hSw
    go_simp
    try with_reducible rfl
  (try simp only [List.getElem_toArray, List.getElem_cons_zero, List.getElem_cons_succ, Act.put, List.setIfInBounds_toArray, List.set_cons_zero, List.set_cons_succ])
  refine wpAnyH_take (i := 17) (v := ?_) rfl (by kernel_rfl) (by kernel_rfl) (by kernel_rfl) (fun _ _ _ h => h) (Or.inl ⟨by rfl, ?_⟩) (by assumption) ?_
  rotate_left
  · intro w' hSw
    (try dsimp only at hSw)
    obtain ⟨q0, q1, q2, q3, q4, q5⟩ := hSw
    go_simp
    try with_reducible rfl
  (try simp only [List.getElem_toArray, List.getElem_cons_zero, List.getElem_cons_succ, Act.put, List.setIfInBounds_toArray, List.set_cons_zero, List.set_cons_succ])
  refine wpAnyH_take (i := 18) (v := ?_) rfl (by kernel_rfl) (by kernel_rfl) (by kernel_rfl) (fun _ _ _ h => h) (Or.inl ⟨by rfl, ?_⟩) (by assumption) ?_
  rotate_left
  · intro w' hSw
    (try dsimp only at hSw)
    obtain ⟨q0, q1, q2, q3, q4, q5⟩ := hSw
    go_simp
    try with_reducible rfl
  (try simp only [List.getElem_toArray, List.getElem_cons_zero, List.getElem_cons_succ, Act.put, List.setIfInBounds_toArray, List.set_cons_zero, List.set_cons_succ])
  refine wpAnyH_take (i := 19) (v := ?_) rfl (by kernel_rfl) (by kernel_rfl) (by kernel_rfl) (fun _ _ _ h => h) (Or.inl ⟨by rfl, ?_⟩) (by assumption) ?_
  rotate_left
  · intro w' hSw
    (try dsimp only at hSw)
    obtain ⟨q0, q1, q2, q3, q4, q5⟩ := hSw
    go_simp
    try with_reducible rfl
  (try simp only [List.getElem_toArray, List.getElem_cons_zero, List.getElem_cons_succ, Act.put, List.setIfInBounds_toArray, List.set_cons_zero, List.set_cons_succ])
  refine wpAnyH_take (i := 20) (v := ?_) rfl (by kernel_rfl) (by kernel_rfl) (by kernel_rfl) (fun _ _ _ h => h) (Or.inl ⟨by rfl, ?_⟩) (by assumption) ?_
  rotate_left
  · intro w' hSw
    (try dsimp only at hSw)
    obtain ⟨q0, q1, q2, q3, q4, q5⟩ := hSw
    go_simp
    try with_reducible rfl
  (try simp only [List.getElem_toArray, List.getElem_cons_zero, List.getElem_cons_succ, Act.put, List.setIfInBounds_toArray, List.set_cons_zero, List.set_cons_succ])
  refine wpAnyH_take (i := 22) (v := ?_) rfl (by kernel_rfl) (by kernel_rfl) (by kernel_rfl) (fun _ _ _ h => h) (Or.inl ⟨by rfl, ?_⟩) (by assumption) ?_
  rotate_left
  · intro w' hSw
    (try dsimp only at hSw)
    obtain ⟨q0, q1, q2, q3, q4, q5⟩ := hSw
    go_simp
    try with_reducible rfl
  (try simp only [List.getElem_toArray, List.getElem_cons_zero, List.getElem_cons_succ, Act.put, List.setIfInBounds_toArray, List.set_cons_zero, List.set_cons_succ])
  refine wpAnyH_take (i := 24) (v := ?_) rfl (by kernel_rfl) (by kernel_rfl) (by kernel_rfl) (fun _ _ _ h => h) (Or.inl ⟨by rfl, ?_⟩) (by assumption) ?_
  rotate_left
  · intro w' hSw
    (try dsimp only at hSw)
    obtain ⟨q0, q1, q2, q3, q4, q5⟩ := hSw
    go_simp
    try with_reducible rfl
  (try simp only [List.getElem_toArray, List.getElem_cons_zero, List.getElem_cons_succ, Act.put, List.setIfInBounds_toArray, List.set_cons_zero, List.set_cons_succ])
  refine wpAnyH_take (i := 25) (v := ?_) rfl (by kernel_rfl) (by kernel_rfl) (by kernel_rfl) (fun _ _ _ h => h) (Or.inl ⟨by rfl, ?_⟩) (by assumption) ?_
  rotate_left
  · intro w' hSw
    (try dsimp only at hSw)
    obtain ⟨q0, q1, q2, q3, q4, q5⟩ := hSw
    go_simp
    try with_reducible rfl
  (try simp only [List.getElem_toArray, List.getElem_cons_zero, List.getElem_cons_succ, Act.put, List.setIfInBounds_toArray, List.set_cons_zero, List.set_cons_succ])
  refine wpAnyH_take (i := 26) (v := ?_) rfl (by kernel_rfl) (by kernel_rfl) (by kernel_rfl) (fun _ _ _ h => h) (Or.inl ⟨by rfl, ?_⟩) (by assumption) ?_
  rotate_left
  · intro w' hSw
    (try dsimp only at hSw)
    obtain ⟨q0, q1, q2, q3, q4, q5⟩ := hSw
    go_simp
    try with_reducible rfl
  (try simp only [List.getElem_toArray, List.getElem_cons_zero, List.getElem_cons_succ, Act.put, List.setIfInBounds_toArray, List.set_cons_zero, List.set_cons_succ])
  refine wpAnyH_ready (rs := [21]) (by kernel_rfl) (by simp) ?_
  refine AllReadyH.cons rfl (fun K hK => ?_) AllReadyH.nil
  go_simp
  refine (sumv zp zq kzp_.out kzq_.out ka5_.out).mono ?_
  rintro e w_7_7 ⟨va5, rfl, a5, hb_7_7⟩
  replace b0 := b0.below hb_7_7 b0.lt
  replace b1 := b1.below hb_7_7 b1.lt
  replace b2 := b2.below hb_7_7 b2.lt
  replace zp := zp.below hb_7_7
  replace zq := zq.below hb_7_7
  replace zt := zt.below hb_7_7
  have ch_7_7 := ch_7_6.trans (hb_7_7.mono ch_7_6.size)
  refine hK.out _ _ (cells6 b0 b1 b2) (fun hH7 => ?_)
  clear hK K ch_7_6 hb_7_7 hH
  have hH := hH7
  clear hH7
  (try simp only [List.getElem_toArray, List.getElem_cons_zero, List.getElem_cons_succ, Act.put, List.setIfInBounds_toArray, List.set_cons_zero, List.set_cons_succ])
  refine wpAnyH_ready (rs := [23]) (by kernel_rfl) (by simp) ?_
  refine AllReadyH.cons rfl (fun K hK => ?_) AllReadyH.nil
  go_simp
  refine (sumv a5 zt ka5_.out kzt_.out ka6_.out).mono ?_
  rintro e w_7_8 ⟨va6, rfl, a6, hb_7_8⟩
  replace b0 := b0.below hb_7_8 b0.lt
  replace b1 := b1.below hb_7_8 b1.lt
  replace b2 := b2.below hb_7_8 b2.lt
  replace zp := zp.below hb_7_8
  replace zq := zq.below hb_7_8
  replace zt := zt.below hb_7_8
  clear a5
  have ch_7_8 := ch_7_7.trans (hb_7_8.mono ch_7_7.size)
  refine hK.out _ _ (cells6 b0 b1 b2) (fun hH8 => ?_)
  clear hK K ch_7_7 hb_7_8 hH
  have hH := hH8
  clear hH8
  (try simp only [List.getElem_toArray, List.getElem_cons_zero, List.getElem_cons_succ, Act.put, List.setIfInBounds_toArray, List.set_cons_zero, List.set_cons_succ])
  refine wpAnyH_ready (rs := [27]) (by kernel_rfl) (by simp) ?_
  refine AllReadyH.cons rfl (fun K hK => ?_) AllReadyH.nil
  go_simp
  refine (sumv zq zt kzq_.out kzt_.out ka7_.out).mono ?_
  rintro e w_7_9 ⟨va7, rfl, a7, hb_7_9⟩
  replace b0 := b0.below hb_7_9 b0.lt
  replace b1 := b1.below hb_7_9 b1.lt
  replace b2 := b2.below hb_7_9 b2.lt
  replace zp := zp.below hb_7_9
  replace zq := zq.below hb_7_9
  replace zt := zt.below hb_7_9
  replace a6 := a6.below hb_7_9
  have ch_7_9 := ch_7_8.trans (hb_7_9.mono ch_7_8.size)
  refine hK.out _ _ (cells6 b0 b1 b2) (fun hH9 => ?_)
  clear hK K ch_7_8 hb_7_9 hH
  have hH := hH9
  clear hH9
  (try simp only [List.getElem_toArray, List.getElem_cons_zero, List.getElem_cons_succ, Act.put, List.setIfInBounds_toArray, List.set_cons_zero, List.set_cons_succ])
  refine wpAnyH_ready (rs := [28]) (by kernel_rfl) (by simp) ?_
  refine AllReadyH.cons rfl (fun K hK => ?_) AllReadyH.nil
  go_simp
  refine (sumv zp a7 kzp_.out ka7_.out ka8_.out).mono ?_
  rintro e w_7_10 ⟨va8, rfl, a8, hb_7_10⟩
  replace b0 := b0.below hb_7_10 b0.lt
  replace b1 := b1.below hb_7_10 b1.lt
  replace b2 := b2.below hb_7_10 b2.lt
  replace zp := zp.below hb_7_10
  replace zq := zq.below hb_7_10
  replace zt := zt.below hb_7_10
  replace a6 := a6.below hb_7_10
  clear a7
  have ch_7_10 := ch_7_9.trans (hb_7_10.mono ch_7_9.size)
  refine hK.out _ _ (cells6 b0 b1 b2) (fun hH10 => ?_)
  clear hK K ch_7_9 hb_7_10 hH
  have hH := hH10
  clear hH10
  (try simp only [List.getElem_toArray, List.getElem_cons_zero, List.getElem_cons_succ, Act.put, List.setIfInBounds_toArray, List.set_cons_zero, List.set_cons_succ])
  refine wpAnyH_ready (rs := [29]) (by kernel_rfl) (by simp) ?_
  refine AllReadyH.cons rfl (fun K hK => ?_) AllReadyH.nil
  go_simp
  refine (equal_l a6 a8 ka6_.out ka8_.out q5_.out).mono ?_
  rintro e w_7_11 ⟨rfl, hb_7_11⟩
  replace b0 := b0.below hb_7_11 b0.lt
  replace b1 := b1.below hb_7_11 b1.lt
  replace b2 := b2.below hb_7_11 b2.lt
  replace zp := zp.below hb_7_11
  replace zq := zq.below hb_7_11
  replace zt := zt.below hb_7_11
  clear a6
  clear a8
  have ch_7_11 := ch_7_10.trans (hb_7_11.mono ch_7_10.size)
  refine hK.out _ _ (cells6 b0 b1 b2) (fun hH11 => ?_)
  clear hK K ch_7_10 hb_7_11 hH
  have hH := hH11
  clear hH11
  (try simp only [List.getElem_toArray, List.getElem_cons_zero, List.getElem_cons_succ, Act.put, List.setIfInBounds_toArray, List.set_cons_zero, List.set_cons_succ])
  refine wpAnyH_take (i := 30) (v := ?_) rfl (by kernel_rfl) (by kernel_rfl) (by kernel_rfl) (fun _ _ _ h => h) (Or.inl ⟨by rfl, ?_⟩) (by assumption) ?_
  rotate_left
  · intro w' hSw
    (try dsimp only at hSw)
    obtain ⟨q0, q1, q2, q3, q4, q5⟩ := hSw
    go_simp
    try with_reducible rfl
  (try simp only [List.getElem_toArray, List.getElem_cons_zero, List.getElem_cons_succ, Act.put, List.setIfInBounds_toArray, List.set_cons_zero, List.set_cons_succ])
  refine wpAnyH_take (i := 31) (v := ?_) rfl (by kernel_rfl) (by kernel_rfl) (by kernel_rfl) (fun _ _ _ h => h) (Or.inl ⟨by rfl, ?_⟩) (by assumption) ?_
  rotate_left
  · intro w' hSw
    (try dsimp only at hSw)
    obtain ⟨q0, q1, q2, q3, q4, q5⟩ := hSw
    go_simp
    try with_reducible rfl
  (try simp only [List.getElem_toArray, List.getElem_cons_zero, List.getElem_cons_succ, Act.put, List.setIfInBounds_toArray, List.set_cons_zero, List.set_cons_succ])
  refine wpAnyH_take (i := 32) (v := ?_) rfl (by kernel_rfl) (by kernel_rfl) (by kernel_rfl) (fun _ _ _ h => h) (Or.inl ⟨by rfl, ?_⟩) (by assumption) ?_
  rotate_left
  · intro w' hSw
    (try dsimp only at hSw)
    obtain ⟨q0, q1, q2, q3, q4, q5⟩ := hSw
    go_simp
    try with_reducible rfl
  (try simp only [List.getElem_toArray, List.getElem_cons_zero, List.getElem_cons_succ, Act.put, List.setIfInBounds_toArray, List.set_cons_zero, List.set_cons_succ])
  refine wpAnyH_take (i := 33) (v := ?_) rfl (by kernel_rfl) (by kernel_rfl) (by kernel_rfl) (fun _ _ _ h => h) (Or.inl ⟨by rfl, ?_⟩) (by assumption) ?_
  rotate_left
  · intro w' hSw
    (try dsimp only at hSw)
    obtain ⟨q0, q1, q2, q3, q4, q5⟩ := hSw
    go_simp
    try with_reducible rfl
  (try simp only [List.getElem_toArray, List.getElem_cons_zero, List.getElem_cons_succ, Act.put, List.setIfInBounds_toArray, List.set_cons_zero, List.set_cons_succ])
  refine wpAnyH_take (i := 34) (v := ?_) rfl (by kernel_rfl) (by kernel_rfl) (by kernel_rfl) (fun _ _ _ h => h) (Or.inl ⟨by rfl, ?_⟩) (by assumption) ?_
  rotate_left
  · intro w' hSw
    (try dsimp only at hSw)
    obtain ⟨q0, q1, q2, q3, q4, q5⟩ := hSw
    go_simp
    try with_reducible rfl
  (try simp only [List.getElem_toArray, List.getElem_cons_zero, List.getElem_cons_succ, Act.put, List.setIfInBounds_toArray, List.set_cons_zero, List.set_cons_succ])
  refine wpAnyH_take (i := 36) (v := ?_) rfl (by kernel_rfl) (by kernel_rfl) (by kernel_rfl) (fun _ _ _ h => h) (Or.inl ⟨by rfl, ?_⟩) (by assumption) ?_
  rotate_left
  · intro w' hSw
    (try dsimp only at hSw)
    obtain ⟨q0, q1, q2, q3, q4, q5⟩ := hSw
    go_simp
    try with_reducible rfl
  (try simp only [List.getElem_toArray, List.getElem_cons_zero, List.getElem_cons_succ, Act.put, List.setIfInBounds_toArray, List.set_cons_zero, List.set_cons_succ])
  refine wpAnyH_take (i := 38) (v := ?_) rfl (by kernel_rfl) (by kernel_rfl) (by kernel_rfl) (fun _ _ _ h => h) (Or.inl ⟨by rfl, ?_⟩) (by assumption) ?_
  rotate_left
  · intro w' hSw
    (try dsimp only at hSw)
    obtain ⟨q0, q1, q2, q3, q4, q5⟩ := hSw
    go_simp
    try with_reducible rfl
  (try simp only [List.getElem_toArray, List.getElem_cons_zero, List.getElem_cons_succ, Act.put, List.setIfInBounds_toArray, List.set_cons_zero, List.set_cons_succ])
  refine wpAnyH_take (i := 39) (v := ?_) rfl (by kernel_rfl) (by kernel_rfl) (by kernel_rfl) (fun _ _ _ h => h) (Or.inl ⟨by rfl, ?_⟩) (by assumption) ?_
  rotate_left
  · intro w' hSw
    (try dsimp only at hSw)
    obtain ⟨q0, q1, q2, q3, q4, q5⟩ := hSw
    go_simp
    try with_reducible rfl
  (try simp only [List.getElem_toArray, List.getElem_cons_zero, List.getElem_cons_succ, Act.put, List.setIfInBounds_toArray, List.set_cons_zero, List.set_cons_succ])
  refine wpAnyH_take (i := 40) (v := ?_) rfl (by kernel_rfl) (by kernel_rfl) (by kernel_rfl) (fun _ _ _ h => h) (Or.inl ⟨by rfl, ?_⟩) (by assumption) ?_
  rotate_left
  · intro w' hSw
    (try dsimp only at hSw)
    obtain ⟨q0, q1, q2, q3, q4, q5⟩ := hSw
    go_simp
    try with_reducible rfl
  (try simp only [List.getElem_toArray, List.getElem_cons_zero, List.getElem_cons_succ, Act.put, List.setIfInBounds_toArray, List.set_cons_zero, List.set_cons_succ])
  refine wpAnyH_ready (rs := [35]) (by kernel_rfl) (by simp) ?_
  refine AllReadyH.cons rfl (fun K hK => ?_) AllReadyH.nil
  go_simp
  refine (prodv zp zq kzp_.out kzq_.out kg1_.out).mono ?_
  rintro e w_7_12 ⟨vg1, rfl, g1, hb_7_12⟩
  replace b0 := b0.below hb_7_12 b0.lt
  replace b1 := b1.below hb_7_12 b1.lt
  replace b2 := b2.below hb_7_12 b2.lt
  replace zp := zp.below hb_7_12
  replace zq := zq.below hb_7_12
  replace zt := zt.below hb_7_12
  have ch_7_12 := ch_7_11.trans (hb_7_12.mono ch_7_11.size)
  refine hK.out _ _ (cells6 b0 b1 b2) (fun hH12 => ?_)
  clear hK K ch_7_11 hb_7_12 hH
  have hH := hH12
  clear hH12
  (try simp only [List.getElem_toArray, List.getElem_cons_zero, List.getElem_cons_succ, Act.put, List.setIfInBounds_toArray, List.set_cons_zero, List.set_cons_succ])
  refine wpAnyH_ready (rs := [37]) (by kernel_rfl) (by simp) ?_
  refine AllReadyH.cons rfl (fun K hK => ?_) AllReadyH.nil
  go_simp
  refine (prodv g1 zt kg1_.out kzt_.out kg2_.out).mono ?_
  rintro e w_7_13 ⟨vg2, rfl, g2, hb_7_13⟩
  replace b0 := b0.below hb_7_13 b0.lt
  replace b1 := b1.below hb_7_13 b1.lt
  replace b2 := b2.below hb_7_13 b2.lt
  replace zp := zp.below hb_7_13
  replace zq := zq.below hb_7_13
  replace zt := zt.below hb_7_13
  clear g1
  have ch_7_13 := ch_7_12.trans (hb_7_13.mono ch_7_12.size)
  refine hK.out _ _ (cells6 b0 b1 b2) (fun hH13 => ?_)
  clear hK K ch_7_12 hb_7_13 hH
  have hH := hH13
  clear hH13
  (try simp only [List.getElem_toArray, List.getElem_cons_zero, List.getElem_cons_succ, Act.put, List.setIfInBounds_toArray, List.set_cons_zero, List.set_cons_succ])
  refine wpAnyH_ready (rs := [41]) (by kernel_rfl) (by simp) ?_
  refine AllReadyH.cons rfl (fun K hK => ?_) AllReadyH.nil
  go_simp
  refine (prodv zq zt kzq_.out kzt_.out kg3_.out).mono ?_
  rintro e w_7_14 ⟨vg3, rfl, g3, hb_7_14⟩
  replace b0 := b0.below hb_7_14 b0.lt
  replace b1 := b1.below hb_7_14 b1.lt
  replace b2 := b2.below hb_7_14 b2.lt
  replace zp := zp.below hb_7_14
  replace zq := zq.below hb_7_14
  replace zt := zt.below hb_7_14
  replace g2 := g2.below hb_7_14
  have ch_7_14 := ch_7_13.trans (hb_7_14.mono ch_7_13.size)
  refine hK.out _ _ (cells6 b0 b1 b2) (fun hH14 => ?_)
  clear hK K ch_7_13 hb_7_14 hH
  have hH := hH14
  clear hH14
  (try simp only [List.getElem_toArray, List.getElem_cons_zero, List.getElem_cons_succ, Act.put, List.setIfInBounds_toArray, List.set_cons_zero, List.set_cons_succ])
  refine wpAnyH_ready (rs := [42]) (by kernel_rfl) (by simp) ?_
  refine AllReadyH.cons rfl (fun K hK => ?_) AllReadyH.nil
  go_simp
  refine (prodv zp g3 kzp_.out kg3_.out kg4_.out).mono ?_
  rintro e w_7_15 ⟨vg4, rfl, g4, hb_7_15⟩
  replace b0 := b0.below hb_7_15 b0.lt
  replace b1 := b1.below hb_7_15 b1.lt
  replace b2 := b2.below hb_7_15 b2.lt
  replace zp := zp.below hb_7_15
  replace zq := zq.below hb_7_15
  replace zt := zt.below hb_7_15
  replace g2 := g2.below hb_7_15
  clear g3
  have ch_7_15 := ch_7_14.trans (hb_7_15.mono ch_7_14.size)
  refine hK.out _ _ (cells6 b0 b1 b2) (fun hH15 => ?_)
  clear hK K ch_7_14 hb_7_15 hH
  have hH := hH15
  clear hH15
  (try simp only [List.getElem_toArray, List.getElem_cons_zero, List.getElem_cons_succ, Act.put, List.setIfInBounds_toArray, List.set_cons_zero, List.set_cons_succ])
  refine wpAnyH_ready (rs := [43]) (by kernel_rfl) (by simp) ?_
  refine AllReadyH.cons rfl (fun K hK => ?_) AllReadyH.nil
  go_simp
  refine (equal_l g2 g4 kg2_.out kg4_.out q6_.out).mono ?_
  rintro e w_7_16 ⟨rfl, hb_7_16⟩
  replace b0 := b0.below hb_7_16 b0.lt
  replace b1 := b1.below hb_7_16 b1.lt
  replace b2 := b2.below hb_7_16 b2.lt
  replace zp := zp.below hb_7_16
  replace zq := zq.below hb_7_16
  replace zt := zt.below hb_7_16
  clear g2
  clear g4
  have ch_7_16 := ch_7_15.trans (hb_7_16.mono ch_7_15.size)
  refine hK.out _ _ (cells6 b0 b1 b2) (fun hH16 => ?_)
  clear hK K ch_7_15 hb_7_16 hH
  have hH := hH16
  clear hH16
  (try simp only [List.getElem_toArray, List.getElem_cons_zero, List.getElem_cons_succ, Act.put, List.setIfInBounds_toArray, List.set_cons_zero, List.set_cons_succ])
  refine wpAnyH_take (i := 44) (v := ?_) rfl (by kernel_rfl) (by kernel_rfl) (by kernel_rfl) (fun _ _ _ h => h) (Or.inl ⟨by rfl, ?_⟩) (by assumption) ?_
  rotate_left
  · intro w' hSw
    (try dsimp only at hSw)
    obtain ⟨q0, q1, q2, q3, q4, q5⟩ := hSw
    go_simp
    try with_reducible rfl
  (try simp only [List.getElem_toArray, List.getElem_cons_zero, List.getElem_cons_succ, Act.put, List.setIfInBounds_toArray, List.set_cons_zero, List.set_cons_succ])
  refine wpAnyH_take (i := 45) (v := ?_) rfl (by kernel_rfl) (by kernel_rfl) (by kernel_rfl) (fun _ _ _ h => h) (Or.inl ⟨by rfl, ?_⟩) (by assumption) ?_
  rotate_left
  · intro w' hSw
    (try dsimp only at hSw)
    obtain ⟨q0, q1, q2, q3, q4, q5⟩ := hSw
    go_simp
    try with_reducible rfl
  (try simp only [List.getElem_toArray, List.getElem_cons_zero, List.getElem_cons_succ, Act.put, List.setIfInBounds_toArray, List.set_cons_zero, List.set_cons_succ])
  refine wpAnyH_done (by kernel_rfl) ?_ _
  clear hH
  have ch4 := ch_7_16
  clear ch_7_16
  go_wp2
  have lc1_ : Hid (Lz 101 (q + t)) := ((lzq_.out.mono (k := 100) (by omega)).add (lzt_.out.mono (k := 100) (by omega)))
  have kc1_ : Hid (Lz 1024 (q + t)) := lc1_.out.mono (by omega)
  have lc2_ : Hid (Lz 201 (p * (q + t))) := (lzp_.out.mul lc1_.out)
  have kc2_ : Hid (Lz 1024 (p * (q + t))) := lc2_.out.mono (by omega)
  have lc3_ : Hid (Lz 200 (p * q)) := (lzp_.out.mul lzq_.out)
  have kc3_ : Hid (Lz 1024 (p * q)) := lc3_.out.mono (by omega)
  have lc4_ : Hid (Lz 200 (p * t)) := (lzp_.out.mul lzt_.out)
  have kc4_ : Hid (Lz 1024 (p * t)) := lc4_.out.mono (by omega)
  have lc5_ : Hid (Lz 201 ((p * q) + (p * t))) := ((lc3_.out.mono (k := 200) (by omega)).add (lc4_.out.mono (k := 200) (by omega)))
  have kc5_ : Hid (Lz 1024 ((p * q) + (p * t))) := lc5_.out.mono (by omega)
  have q8_ : Hid ((p * (q + t)) = ((p * q) + (p * t))) := Int.mul_add _ _ _
  have lc6_ : Hid (Lz 1 (0)) := lz_one (by decide)
  have kc6_ : Hid (Lz 1024 (0)) := lc6_.out.mono (by omega)
  have lc7_ : Hid (Lz 101 (p + (0))) := ((lzp_.out.mono (k := 100) (by omega)).add (lc6_.out.mono (k := 100) (by omega)))
  have kc7_ : Hid (Lz 1024 (p + (0))) := lc7_.out.mono (by omega)
  have q9_ : Hid ((p + (0)) = p) := Int.add_zero _
  have lc8_ : Hid (Lz 1 (1)) := lz_one (by decide)
  have kc8_ : Hid (Lz 1024 (1)) := lc8_.out.mono (by omega)
  have lc9_ : Hid (Lz 101 (p * (1))) := (lzp_.out.mul lc8_.out)
  have kc9_ : Hid (Lz 1024 (p * (1))) := lc9_.out.mono (by omega)
  have q10_ : Hid ((p * (1)) = p) := Int.mul_one _
  have ld1_ : Hid (Lz 1 (0)) := lz_one (by decide)
  have kd1_ : Hid (Lz 1024 (0)) := ld1_.out.mono (by omega)
  have ld2_ : Hid (Lz 101 (p * (0))) := (lzp_.out.mul ld1_.out)
  have kd2_ : Hid (Lz 1024 (p * (0))) := ld2_.out.mono (by omega)
  have ld3_ : Hid (Lz 1 (0)) := lz_one (by decide)
  have kd3_ : Hid (Lz 1024 (0)) := ld3_.out.mono (by omega)
  have q11_ : Hid ((p * (0)) = (0)) := Int.mul_zero _
  replace b0 := b0.drew
  replace b1 := b1.drew
  replace b2 := b2.drew
  replace zp := whz_drew zp
  replace zq := whz_drew zq
  replace zt := whz_drew zt
  have ch_12_0 := ch4.drew
  clear ch4
  have kk_12_0 := cells6 b0 b1 b2
  refine wp_region_held_drew (S := fun w' => w'.cell? ⟨w.heap.size, 0, none⟩ = some (.bool x) ∧ w'.cell? ⟨w.heap.size, 1, none⟩ = some (.slice A na ca) ∧ w'.cell? ⟨(w.heap.size + 1), 0, none⟩ = some (.bool y) ∧ w'.cell? ⟨(w.heap.size + 1), 1, none⟩ = some (.slice B nb cb) ∧ w'.cell? ⟨(w.heap.size + 2), 0, none⟩ = some (.bool z) ∧ w'.cell? ⟨(w.heap.size + 2), 1, none⟩ = some (.slice C nc cc)) (by kernel_rfl) kk_12_0 (fun hH => ?_)
  clear kk_12_0
  refine wpAnyH_take (i := 0) (v := ?_) rfl (by kernel_rfl) (by kernel_rfl) (by kernel_rfl) (fun _ _ _ h => h) (Or.inl ⟨by rfl, ?_⟩) (by assumption) ?_
  rotate_left
  · intro w' hSw
    (try dsimp only at hSw)
    obtain ⟨q0, q1, q2, q3, q4, q5⟩ := hSw
    go_simp
    try with_reducible rfl
  (try simp only [List.getElem_toArray, List.getElem_cons_zero, List.getElem_cons_succ, Act.put, List.setIfInBounds_toArray, List.set_cons_zero, List.set_cons_succ])
  refine wpAnyH_take (i := 1) (v := ?_) rfl (by kernel_rfl) (by kernel_rfl) (by kernel_rfl) (fun _ _ _ h => h) (Or.inl ⟨by rfl, ?_⟩) (by assumption) ?_
  rotate_left
  · intro w' hSw
    (try dsimp only at hSw)
    obtain ⟨q0, q1, q2, q3, q4, q5⟩ := hSw
    go_simp
    try with_reducible rfl
  (try simp only [List.getElem_toArray, List.getElem_cons_zero, List.getElem_cons_succ, Act.put, List.setIfInBounds_toArray, List.set_cons_zero, List.set_cons_succ])
  refine wpAnyH_take (i := 2) (v := ?_) rfl (by kernel_rfl) (by kernel_rfl) (by kernel_rfl) (fun _ _ _ h => h) (Or.inl ⟨by rfl, ?_⟩) (by assumption) ?_
  rotate_left
  · intro w' hSw
    (try dsimp only at hSw)
    obtain ⟨q0, q1, q2, q3, q4, q5⟩ := hSw
    go_simp
    try with_reducible rfl
  (try simp only [List.getElem_toArray, List.getElem_cons_zero, List.getElem_cons_succ, Act.put, List.setIfInBounds_toArray, List.set_cons_zero, List.set_cons_succ])
  refine wpAnyH_take (i := 5) (v := ?_) rfl (by kernel_rfl) (by kernel_rfl) (by kernel_rfl) (fun _ _ _ h => h) (Or.inl ⟨by rfl, ?_⟩) (by assumption) ?_
  rotate_left
  · intro w' hSw
    (try dsimp only at hSw)
    obtain ⟨q0, q1, q2, q3, q4, q5⟩ := hSw
    go_simp
    try with_reducible rfl
  (try simp only [List.getElem_toArray, List.getElem_cons_zero, List.getElem_cons_succ, Act.put, List.setIfInBounds_toArray, List.set_cons_zero, List.set_cons_succ])
  refine wpAnyH_take (i := 6) (v := ?_) rfl (by kernel_rfl) (by kernel_rfl) (by kernel_rfl) (fun _ _ _ h => h) (Or.inl ⟨by rfl, ?_⟩) (by assumption) ?_
  rotate_left
  · intro w' hSw
    (try dsimp only at hSw)
    obtain ⟨q0, q1, q2, q3, q4, q5⟩ := hSw
    go_simp
    try with_reducible rfl
  (try simp only [List.getElem_toArray, List.getElem_cons_zero, List.getElem_cons_succ, Act.put, List.setIfInBounds_toArray, List.set_cons_zero, List.set_cons_succ])
  refine wpAnyH_take (i := 8) (v := ?_) rfl (by kernel_rfl) (by kernel_rfl) (by kernel_rfl) (fun _ _ _ h => h) (Or.inl ⟨by rfl, ?_⟩) (by assumption) ?_
  rotate_left
  · intro w' hSw
    (try dsimp only at hSw)
    obtain ⟨q0, q1, q2, q3, q4, q5⟩ := hSw
    go_simp
    try with_reducible rfl
  (try simp only [List.getElem_toArray, List.getElem_cons_zero, List.getElem_cons_succ, Act.put, List.setIfInBounds_toArray, List.set_cons_zero, List.set_cons_succ])
  refine wpAnyH_take (i := 9) (v := ?_) rfl (by kernel_rfl) (by kernel_rfl) (by kernel_rfl) (fun _ _ _ h => h) (Or.inl ⟨by rfl, ?_⟩) (by assumption) ?_
  rotate_left
  · intro w' hSw
    (try dsimp only at hSw)
    obtain ⟨q0, q1, q2, q3, q4, q5⟩ := hSw
    go_simp
    try with_reducible rfl
  (try simp only [List.getElem_toArray, List.getElem_cons_zero, List.getElem_cons_succ, Act.put, List.setIfInBounds_toArray, List.set_cons_zero, List.set_cons_succ])
  refine wpAnyH_ready (rs := [3]) (by kernel_rfl) (by simp) ?_
  refine AllReadyH.cons rfl (fun K hK => ?_) AllReadyH.nil
  go_simp
  refine (sumv zq zt kzq_.out kzt_.out kc1_.out).mono ?_
  rintro e w_12_1 ⟨vc1, rfl, c1, hb_12_1⟩
  replace b0 := b0.below hb_12_1 b0.lt
  replace b1 := b1.below hb_12_1 b1.lt
  replace b2 := b2.below hb_12_1 b2.lt
  replace zp := zp.below hb_12_1
  replace zq := zq.below hb_12_1
  replace zt := zt.below hb_12_1
  have ch_12_1 := ch_12_0.trans (hb_12_1.mono ch_12_0.size)
  refine hK.out _ _ (cells6 b0 b1 b2) (fun hH1 => ?_)
  clear hK K ch_12_0 hb_12_1 hH
  have hH := hH1
  clear hH1
  (try simp only [List.getElem_toArray, List.getElem_cons_zero, List.getElem_cons_succ, Act.put, List.setIfInBounds_toArray, List.set_cons_zero, List.set_cons_succ])
  refine wpAnyH_ready (rs := [4]) (by kernel_rfl) (by simp) ?_
  refine AllReadyH.cons rfl (fun K hK => ?_) AllReadyH.nil
  go_simp
  refine (prodv zp c1 kzp_.out kc1_.out kc2_.out).mono ?_
  rintro e w_12_2 ⟨vc2, rfl, c2, hb_12_2⟩
  replace b0 := b0.below hb_12_2 b0.lt
  replace b1 := b1.below hb_12_2 b1.lt
  replace b2 := b2.below hb_12_2 b2.lt
  replace zp := zp.below hb_12_2
  replace zq := zq.below hb_12_2
  replace zt := zt.below hb_12_2
  clear c1
  have ch_12_2 := ch_12_1.trans (hb_12_2.mono ch_12_1.size)
  refine hK.out _ _ (cells6 b0 b1 b2) (fun hH2 => ?_)
  clear hK K ch_12_1 hb_12_2 hH
  have hH := hH2
  clear hH2
  (try simp only [List.getElem_toArray, List.getElem_cons_zero, List.getElem_cons_succ, Act.put, List.setIfInBounds_toArray, List.set_cons_zero, List.set_cons_succ])
  refine wpAnyH_ready (rs := [7]) (by kernel_rfl) (by simp) ?_
  refine AllReadyH.cons rfl (fun K hK => ?_) AllReadyH.nil
  go_simp
  refine (prodv zp zq kzp_.out kzq_.out kc3_.out).mono ?_
  rintro e w_12_3 ⟨vc3, rfl, c3, hb_12_3⟩
  replace b0 := b0.below hb_12_3 b0.lt
  replace b1 := b1.below hb_12_3 b1.lt
  replace b2 := b2.below hb_12_3 b2.lt
  replace zp := zp.below hb_12_3
  replace zq := zq.below hb_12_3
  replace zt := zt.below hb_12_3
  replace c2 := c2.below hb_12_3
  have ch_12_3 := ch_12_2.trans (hb_12_3.mono ch_12_2.size)
  refine hK.out _ _ (cells6 b0 b1 b2) (fun hH3 => ?_)
  clear hK K ch_12_2 hb_12_3 hH
  have hH := hH3
  clear hH3
  (try simp only [List.getElem_toArray, List.getElem_cons_zero, List.getElem_cons_succ, Act.put, List.setIfInBounds_toArray, List.set_cons_zero, List.set_cons_succ])
  refine wpAnyH_ready (rs := [10]) (by kernel_rfl) (by simp) ?_
  refine AllReadyH.cons rfl (fun K hK => ?_) AllReadyH.nil
  go_simp
  refine (prodv zp zt kzp_.out kzt_.out kc4_.out).mono ?_
  rintro e w_12_4 ⟨vc4, rfl, c4, hb_12_4⟩
  replace b0 := b0.below hb_12_4 b0.lt
  replace b1 := b1.below hb_12_4 b1.lt
  replace b2 := b2.below hb_12_4 b2.lt
  replace zp := zp.below hb_12_4
  replace zq := zq.below hb_12_4
  replace zt := zt.below hb_12_4
  replace c2 := c2.below hb_12_4
  replace c3 := c3.below hb_12_4
  have ch_12_4 := ch_12_3.trans (hb_12_4.mono ch_12_3.size)
  refine hK.out _ _ (cells6 b0 b1 b2) (fun hH4 => ?_)
  clear hK K ch_12_3 hb_12_4 hH
  have hH := hH4
  clear hH4
  (try simp only [List.getElem_toArray, List.getElem_cons_zero, List.getElem_cons_succ, Act.put, List.setIfInBounds_toArray, List.set_cons_zero, List.set_cons_succ])
  refine wpAnyH_ready (rs := [11]) (by kernel_rfl) (by simp) ?_
  refine AllReadyH.cons rfl (fun K hK => ?_) AllReadyH.nil
  go_simp
  refine (sumv c3 c4 kc3_.out kc4_.out kc5_.out).mono ?_
  rintro e w_12_5 ⟨vc5, rfl, c5, hb_12_5⟩
  replace b0 := b0.below hb_12_5 b0.lt
  replace b1 := b1.below hb_12_5 b1.lt
  replace b2 := b2.below hb_12_5 b2.lt
  replace zp := zp.below hb_12_5
  replace zq := zq.below hb_12_5
  replace zt := zt.below hb_12_5
  replace c2 := c2.below hb_12_5
  clear c3
  clear c4
  have ch_12_5 := ch_12_4.trans (hb_12_5.mono ch_12_4.size)
  refine hK.out _ _ (cells6 b0 b1 b2) (fun hH5 => ?_)
  clear hK K ch_12_4 hb_12_5 hH
  have hH := hH5
  clear hH5
  (try simp only [List.getElem_toArray, List.getElem_cons_zero, List.getElem_cons_succ, Act.put, List.setIfInBounds_toArray, List.set_cons_zero, List.set_cons_succ])
  refine wpAnyH_ready (rs := [12]) (by kernel_rfl) (by simp) ?_
  refine AllReadyH.cons rfl (fun K hK => ?_) AllReadyH.nil
  go_simp
  refine (equal_l c2 c5 kc2_.out kc5_.out q8_.out).mono ?_
  rintro e w_12_6 ⟨rfl, hb_12_6⟩
  replace b0 := b0.below hb_12_6 b0.lt
  replace b1 := b1.below hb_12_6 b1.lt
  replace b2 := b2.below hb_12_6 b2.lt
  replace zp := zp.below hb_12_6
  replace zq := zq.below hb_12_6
  replace zt := zt.below hb_12_6
  clear c2
  clear c5
  have ch_12_6 := ch_12_5.trans (hb_12_6.mono ch_12_5.size)
  refine hK.out _ _ (cells6 b0 b1 b2) (fun hH6 => ?_)
  clear hK K ch_12_5 hb_12_6 hH
  have hH := hH6
  clear hH6
  (try simp only [List.getElem_toArray, List.getElem_cons_zero, List.getElem_cons_succ, Act.put, List.setIfInBounds_toArray, List.set_cons_zero, List.set_cons_succ])
  refine wpAnyH_take (i := 13) (v := ?_) rfl (by kernel_rfl) (by kernel_rfl) (by kernel_rfl) (fun _ _ _ h => h) (Or.inl ⟨by rfl, ?_⟩) (by assumption) ?_
  rotate_left
  · intro w' hSw
    (try dsimp only at hSw)
    obtain ⟨q0, q1, q2, q3, q4, q5⟩ := hSw
    go_simp
    try with_reducible rfl
  (try simp only [List.getElem_toArray, List.getElem_cons_zero, List.getElem_cons_succ, Act.put, List.setIfInBounds_toArray, List.set_cons_zero, List.set_cons_succ])
  refine wpAnyH_take (i := 14) (v := ?_) rfl (by kernel_rfl) (by kernel_rfl) (by kernel_rfl) (fun _ _ _ h => h) (Or.inl ⟨by rfl, ?_⟩) (by assumption) ?_
  rotate_left
  · intro w' hSw
    (try dsimp only at hSw)
    obtain ⟨q0, q1, q2, q3, q4, q5⟩ := hSw
    go_simp
    try with_reducible rfl
  (try simp only [List.getElem_toArray, List.getElem_cons_zero, List.getElem_cons_succ, Act.put, List.setIfInBounds_toArray, List.set_cons_zero, List.set_cons_succ])
  refine wpAnyH_take (i := 15) (v := ?_) rfl (by kernel_rfl) (by kernel_rfl) (by kernel_rfl) (fun _ _ _ h => h) (Or.inl ⟨by rfl, ?_⟩) (by assumption) ?_
  rotate_left
  · intro w' hSw
    (try dsimp only at hSw)
    obtain ⟨q0, q1, q2, q3, q4, q5⟩ := hSw
    go_simp
    try with_reducible rfl
  (try simp only [List.getElem_toArray, List.getElem_cons_zero, List.getElem_cons_succ, Act.put, List.setIfInBounds_toArray, List.set_cons_zero, List.set_cons_succ])
  refine wpAnyH_take (i := 18) (v := ?_) rfl (by kernel_rfl) (by kernel_rfl) (by kernel_rfl) (fun _ _ _ h => h) (Or.inl ⟨by rfl, ?_⟩) (by assumption) ?_
  rotate_left
  · intro w' hSw
    (try dsimp only at hSw)
    obtain ⟨q0, q1, q2, q3, q4, q5⟩ := hSw
    go_simp
    try with_reducible rfl
  (try simp only [List.getElem_toArray, List.getElem_cons_zero, List.getElem_cons_succ, Act.put, List.setIfInBounds_toArray, List.set_cons_zero, List.set_cons_succ])
  refine wpAnyH_ready (rs := [16]) (by kernel_rfl) (by simp) ?_
  refine AllReadyH.cons rfl (fun K hK => ?_) AllReadyH.nil
  go_simp
  refine (num_wh (0) _ (by omega) (by omega)).mono ?_
  rintro e w_12_7 ⟨vc6, rfl, c6, hb_12_7⟩
  replace b0 := b0.below hb_12_7 b0.lt
  replace b1 := b1.below hb_12_7 b1.lt
  replace b2 := b2.below hb_12_7 b2.lt
  replace zp := zp.below hb_12_7
  replace zq := zq.below hb_12_7
  replace zt := zt.below hb_12_7
  have ch_12_7 := ch_12_6.trans (hb_12_7.mono ch_12_6.size)
  refine hK.out _ _ (cells6 b0 b1 b2) (fun hH7 => ?_)
  clear hK K ch_12_6 hb_12_7 hH
  have hH := hH7
  clear hH7
  (try simp only [List.getElem_toArray, List.getElem_cons_zero, List.getElem_cons_succ, Act.put, List.setIfInBounds_toArray, List.set_cons_zero, List.set_cons_succ])
  refine wpAnyH_ready (rs := [17]) (by kernel_rfl) (by simp) ?_
  refine AllReadyH.cons rfl (fun K hK => ?_) AllReadyH.nil
  go_simp
  refine (sumv zp c6 kzp_.out kc6_.out kc7_.out).mono ?_
  rintro e w_12_8 ⟨vc7, rfl, c7, hb_12_8⟩
  replace b0 := b0.below hb_12_8 b0.lt
  replace b1 := b1.below hb_12_8 b1.lt
  replace b2 := b2.below hb_12_8 b2.lt
  replace zp := zp.below hb_12_8
  replace zq := zq.below hb_12_8
  replace zt := zt.below hb_12_8
  clear c6
  have ch_12_8 := ch_12_7.trans (hb_12_8.mono ch_12_7.size)
  refine hK.out _ _ (cells6 b0 b1 b2) (fun hH8 => ?_)
  clear hK K ch_12_7 hb_12_8 hH
  have hH := hH8
  clear hH8
  (try simp only [List.getElem_toArray, List.getElem_cons_zero, List.getElem_cons_succ, Act.put, List.setIfInBounds_toArray, List.set_cons_zero, List.set_cons_succ])
  refine wpAnyH_ready (rs := [19]) (by kernel_rfl) (by simp) ?_
  refine AllReadyH.cons rfl (fun K hK => ?_) AllReadyH.nil
  go_simp
  refine (equal_l c7 zp kc7_.out kzp_.out q9_.out).mono ?_
  rintro e w_12_9 ⟨rfl, hb_12_9⟩
  replace b0 := b0.below hb_12_9 b0.lt
  replace b1 := b1.below hb_12_9 b1.lt
  replace b2 := b2.below hb_12_9 b2.lt
  replace zp := zp.below hb_12_9
  replace zq := zq.below hb_12_9
  replace zt := zt.below hb_12_9
  clear c7
  have ch_12_9 := ch_12_8.trans (hb_12_9.mono ch_12_8.size)
  refine hK.out _ _ (cells6 b0 b1 b2) (fun hH9 => ?_)
  clear hK K ch_12_8 hb_12_9 hH
  have hH := hH9
  clear hH9
  (try simp only [List.getElem_toArray, List.getElem_cons_zero, List.getElem_cons_succ, Act.put, List.setIfInBounds_toArray, List.set_cons_zero, List.set_cons_succ])
  refine wpAnyH_take (i := 20) (v := ?_) rfl (by kernel_rfl) (by kernel_rfl) (by kernel_rfl) (fun _ _ _ h => h) (Or.inl ⟨by rfl, ?_⟩) (by assumption) ?_
  rotate_left
  · intro w' hSw
    (try dsimp only at hSw)
    obtain ⟨q0, q1, q2, q3, q4, q5⟩ := hSw
    go_simp
    try with_reducible rfl
  (try simp only [List.getElem_toArray, List.getElem_cons_zero, List.getElem_cons_succ, Act.put, List.setIfInBounds_toArray, List.set_cons_zero, List.set_cons_succ])
  refine wpAnyH_take (i := 21) (v := ?_) rfl (by kernel_rfl) (by kernel_rfl) (by kernel_rfl) (fun _ _ _ h => h) (Or.inl ⟨by rfl, ?_⟩) (by assumption) ?_
  rotate_left
  · intro w' hSw
    (try dsimp only at hSw)
    obtain ⟨q0, q1, q2, q3, q4, q5⟩ := hSw
    go_simp
    try with_reducible rfl
  (try simp only [List.getElem_toArray, List.getElem_cons_zero, List.getElem_cons_succ, Act.put, List.setIfInBounds_toArray, List.set_cons_zero, List.set_cons_succ])
  refine wpAnyH_take (i := 22) (v := ?_) rfl (by kernel_rfl) (by kernel_rfl) (by kernel_rfl) (fun _ _ _ h => h) (Or.inl ⟨by rfl, ?_⟩) (by assumption) ?_
  rotate_left
  · intro w' hSw
    (try dsimp only at hSw)
    obtain ⟨q0, q1, q2, q3, q4, q5⟩ := hSw
    go_simp
    try with_reducible rfl
  (try simp only [List.getElem_toArray, List.getElem_cons_zero, List.getElem_cons_succ, Act.put, List.setIfInBounds_toArray, List.set_cons_zero, List.set_cons_succ])
  refine wpAnyH_take (i := 23) (v := ?_) rfl (by kernel_rfl) (by kernel_rfl) (by kernel_rfl) (fun _ _ _ h => h) (Or.inl ⟨by rfl, ?_⟩) (by assumption) ?_
  rotate_left
  · intro w' hSw
    (try dsimp only at hSw)
    obtain ⟨q0, q1, q2, q3, q4, q5⟩ := hSw
    go_simp
    try with_reducible rfl
  (try simp only [List.getElem_toArray, List.getElem_cons_zero, List.getElem_cons_succ, Act.put, List.setIfInBounds_toArray, List.set_cons_zero, List.set_cons_succ])
  refine wpAnyH_take (i := 26) (v := ?_) rfl (by kernel_rfl) (by kernel_rfl) (by kernel_rfl) (fun _ _ _ h => h) (Or.inl ⟨by rfl, ?_⟩) (by assumption) ?_
  rotate_left
  · intro w' hSw
    (try dsimp only at hSw)
    obtain ⟨q0, q1, q2, q3, q4, q5⟩ := hSw
    go_simp
    try with_reducible rfl
  (try simp only [List.getElem_toArray, List.getElem_cons_zero, List.getElem_cons_succ, Act.put, List.setIfInBounds_toArray, List.set_cons_zero, List.set_cons_succ])
  refine wpAnyH_ready (rs := [24]) (by kernel_rfl) (by simp) ?_
  refine AllReadyH.cons rfl (fun K hK => ?_) AllReadyH.nil
  go_simp
  refine (num_wh (1) _ (by omega) (by omega)).mono ?_
  rintro e w_12_10 ⟨vc8, rfl, c8, hb_12_10⟩
  replace b0 := b0.below hb_12_10 b0.lt
  replace b1 := b1.below hb_12_10 b1.lt
  replace b2 := b2.below hb_12_10 b2.lt
  replace zp := zp.below hb_12_10
  replace zq := zq.below hb_12_10
  replace zt := zt.below hb_12_10
  have ch_12_10 := ch_12_9.trans (hb_12_10.mono ch_12_9.size)
  refine hK.out _ _ (cells6 b0 b1 b2) (fun hH10 => ?_)
  clear hK K ch_12_9 hb_12_10 hH
  have hH := hH10
  clear hH10
  (try simp only [List.getElem_toArray, List.getElem_cons_zero, List.getElem_cons_succ, Act.put, List.setIfInBounds_toArray, List.set_cons_zero, List.set_cons_succ])
  refine wpAnyH_ready (rs := [25]) (by kernel_rfl) (by simp) ?_
  refine AllReadyH.cons rfl (fun K hK => ?_) AllReadyH.nil
  go_simp
  refine (prodv zp c8 kzp_.out kc8_.out kc9_.out).mono ?_
  rintro e w_12_11 ⟨vc9, rfl, c9, hb_12_11⟩
  replace b0 := b0.below hb_12_11 b0.lt
  replace b1 := b1.below hb_12_11 b1.lt
  replace b2 := b2.below hb_12_11 b2.lt
  replace zp := zp.below hb_12_11
  replace zq := zq.below hb_12_11
  replace zt := zt.below hb_12_11
  clear c8
  have ch_12_11 := ch_12_10.trans (hb_12_11.mono ch_12_10.size)
  refine hK.out _ _ (cells6 b0 b1 b2) (fun hH11 => ?_)
  clear hK K ch_12_10 hb_12_11 hH
  have hH := hH11
  clear hH11
  (try simp only [List.getElem_toArray, List.getElem_cons_zero, List.getElem_cons_succ, Act.put, List.setIfInBounds_toArray, List.set_cons_zero, List.set_cons_succ])
  refine wpAnyH_ready (rs := [27]) (by kernel_rfl) (by simp) ?_
  refine AllReadyH.cons rfl (fun K hK => ?_) AllReadyH.nil
  go_simp
  refine (equal_l c9 zp kc9_.out kzp_.out q10_.out).mono ?_
  rintro e w_12_12 ⟨rfl, hb_12_12⟩
  replace b0 := b0.below hb_12_12 b0.lt
  replace b1 := b1.below hb_12_12 b1.lt
  replace b2 := b2.below hb_12_12 b2.lt
  replace zp := zp.below hb_12_12
  replace zq := zq.below hb_12_12
  replace zt := zt.below hb_12_12
  clear c9
  have ch_12_12 := ch_12_11.trans (hb_12_12.mono ch_12_11.size)
  refine hK.out _ _ (cells6 b0 b1 b2) (fun hH12 => ?_)
  clear hK K ch_12_11 hb_12_12 hH
  have hH := hH12
  clear hH12
  (try simp only [List.getElem_toArray, List.getElem_cons_zero, List.getElem_cons_succ, Act.put, List.setIfInBounds_toArray, List.set_cons_zero, List.set_cons_succ])
  refine wpAnyH_take (i := 28) (v := ?_) rfl (by kernel_rfl) (by kernel_rfl) (by kernel_rfl) (fun _ _ _ h => h) (Or.inl ⟨by rfl, ?_⟩) (by assumption) ?_
  rotate_left
  · intro w' hSw
    (try dsimp only at hSw)
    obtain ⟨q0, q1, q2, q3, q4, q5⟩ := hSw
    go_simp
    try with_reducible rfl
  (try simp only [List.getElem_toArray, List.getElem_cons_zero, List.getElem_cons_succ, Act.put, List.setIfInBounds_toArray, List.set_cons_zero, List.set_cons_succ])
  refine wpAnyH_take (i := 29) (v := ?_) rfl (by kernel_rfl) (by kernel_rfl) (by kernel_rfl) (fun _ _ _ h => h) (Or.inl ⟨by rfl, ?_⟩) (by assumption) ?_
  rotate_left
  · intro w' hSw
    (try dsimp only at hSw)
    obtain ⟨q0, q1, q2, q3, q4, q5⟩ := hSw
    go_simp
    try with_reducible rfl
  (try simp only [List.getElem_toArray, List.getElem_cons_zero, List.getElem_cons_succ, Act.put, List.setIfInBounds_toArray, List.set_cons_zero, List.set_cons_succ])
  refine wpAnyH_take (i := 30) (v := ?_) rfl (by kernel_rfl) (by kernel_rfl) (by kernel_rfl) (fun _ _ _ h => h) (Or.inl ⟨by rfl, ?_⟩) (by assumption) ?_
  rotate_left
  · intro w' hSw
    (try dsimp only at hSw)
    obtain ⟨q0, q1, q2, q3, q4, q5⟩ := hSw
    go_simp
    try with_reducible rfl
  (try simp only [List.getElem_toArray, List.getElem_cons_zero, List.getElem_cons_succ, Act.put, List.setIfInBounds_toArray, List.set_cons_zero, List.set_cons_succ])
  refine wpAnyH_take (i := 31) (v := ?_) rfl (by kernel_rfl) (by kernel_rfl) (by kernel_rfl) (fun _ _ _ h => h) (Or.inl ⟨by rfl, ?_⟩) (by assumption) ?_
  rotate_left
  · intro w' hSw
    (try dsimp only at hSw)
    obtain ⟨q0, q1, q2, q3, q4, q5⟩ := hSw
    go_simp
    try with_reducible rfl
  (try simp only [List.getElem_toArray, List.getElem_cons_zero, List.getElem_cons_succ, Act.put, List.setIfInBounds_toArray, List.set_cons_zero, List.set_cons_succ])
  refine wpAnyH_ready (rs := [32]) (by kernel_rfl) (by simp) ?_
  refine AllReadyH.cons rfl (fun K hK => ?_) AllReadyH.nil
  go_simp
  refine (num_wh (0) _ (by omega) (by omega)).mono ?_
  rintro e w_12_13 ⟨vd1, rfl, d1, hb_12_13⟩
  replace b0 := b0.below hb_12_13 b0.lt
  replace b1 := b1.below hb_12_13 b1.lt
  replace b2 := b2.below hb_12_13 b2.lt
  replace zp := zp.below hb_12_13
  replace zq := zq.below hb_12_13
  replace zt := zt.below hb_12_13
  have ch_12_13 := ch_12_12.trans (hb_12_13.mono ch_12_12.size)
  refine hK.out _ _ (cells6 b0 b1 b2) (fun hH13 => ?_)
  clear hK K ch_12_12 hb_12_13 hH
  have hH := hH13
  clear hH13
  (try simp only [List.getElem_toArray, List.getElem_cons_zero, List.getElem_cons_succ, Act.put, List.setIfInBounds_toArray, List.set_cons_zero, List.set_cons_succ])
  refine wpAnyH_ready (rs := [33]) (by kernel_rfl) (by simp) ?_
  refine AllReadyH.cons rfl (fun K hK => ?_) AllReadyH.nil
  go_simp
  refine (prodv zp d1 kzp_.out kd1_.out kd2_.out).mono ?_
  rintro e w_12_14 ⟨vd2, rfl, d2, hb_12_14⟩
  replace b0 := b0.below hb_12_14 b0.lt
  replace b1 := b1.below hb_12_14 b1.lt
  replace b2 := b2.below hb_12_14 b2.lt
  replace zp := zp.below hb_12_14
  replace zq := zq.below hb_12_14
  replace zt := zt.below hb_12_14
  clear d1
  have ch_12_14 := ch_12_13.trans (hb_12_14.mono ch_12_13.size)
  refine hK.out _ _ (cells6 b0 b1 b2) (fun hH14 => ?_)
  clear hK K ch_12_13 hb_12_14 hH
  have hH := hH14
  clear hH14
  (try simp only [List.getElem_toArray, List.getElem_cons_zero, List.getElem_cons_succ, Act.put, List.setIfInBounds_toArray, List.set_cons_zero, List.set_cons_succ])
  refine wpAnyH_ready (rs := [34]) (by kernel_rfl) (by simp) ?_
  refine AllReadyH.cons rfl (fun K hK => ?_) AllReadyH.nil
  go_simp
  refine (num_wh (0) _ (by omega) (by omega)).mono ?_
  rintro e w_12_15 ⟨vd3, rfl, d3, hb_12_15⟩
  replace b0 := b0.below hb_12_15 b0.lt
  replace b1 := b1.below hb_12_15 b1.lt
  replace b2 := b2.below hb_12_15 b2.lt
  replace zp := zp.below hb_12_15
  replace zq := zq.below hb_12_15
  replace zt := zt.below hb_12_15
  replace d2 := d2.below hb_12_15
  have ch_12_15 := ch_12_14.trans (hb_12_15.mono ch_12_14.size)
  refine hK.out _ _ (cells6 b0 b1 b2) (fun hH15 => ?_)
  clear hK K ch_12_14 hb_12_15 hH
  have hH := hH15
  clear hH15
  (try simp only [List.getElem_toArray, List.getElem_cons_zero, List.getElem_cons_succ, Act.put, List.setIfInBounds_toArray, List.set_cons_zero, List.set_cons_succ])
  refine wpAnyH_ready (rs := [35]) (by kernel_rfl) (by simp) ?_
  refine AllReadyH.cons rfl (fun K hK => ?_) AllReadyH.nil
  go_simp
  refine (equal_l d2 d3 kd2_.out kd3_.out q11_.out).mono ?_
  rintro e w_12_16 ⟨rfl, hb_12_16⟩
  replace b0 := b0.below hb_12_16 b0.lt
  replace b1 := b1.below hb_12_16 b1.lt
  replace b2 := b2.below hb_12_16 b2.lt
  replace zp := zp.below hb_12_16
  replace zq := zq.below hb_12_16
  replace zt := zt.below hb_12_16
  clear d2
  clear d3
  have ch_12_16 := ch_12_15.trans (hb_12_16.mono ch_12_15.size)
  refine hK.out _ _ (cells6 b0 b1 b2) (fun hH16 => ?_)
  clear hK K ch_12_15 hb_12_16 hH
  have hH := hH16
  clear hH16
  (try simp only [List.getElem_toArray, List.getElem_cons_zero, List.getElem_cons_succ, Act.put, List.setIfInBounds_toArray, List.set_cons_zero, List.set_cons_succ])
  refine wpAnyH_take (i := 36) (v := ?_) rfl (by kernel_rfl) (by kernel_rfl) (by kernel_rfl) (fun _ _ _ h => h) (Or.inl ⟨by rfl, ?_⟩) (by assumption) ?_
  rotate_left
  · intro w' hSw
    (try dsimp only at hSw)
    obtain ⟨q0, q1, q2, q3, q4, q5⟩ := hSw
    go_simp
    try with_reducible rfl
  (try simp only [List.getElem_toArray, List.getElem_cons_zero, List.getElem_cons_succ, Act.put, List.setIfInBounds_toArray, List.set_cons_zero, List.set_cons_succ])
  refine wpAnyH_take (i := 37) (v := ?_) rfl (by kernel_rfl) (by kernel_rfl) (by kernel_rfl) (fun _ _ _ h => h) (Or.inl ⟨by rfl, ?_⟩) (by assumption) ?_
  rotate_left
  · intro w' hSw
    (try dsimp only at hSw)
    obtain ⟨q0, q1, q2, q3, q4, q5⟩ := hSw
    go_simp
    try with_reducible rfl
  (try simp only [List.getElem_toArray, List.getElem_cons_zero, List.getElem_cons_succ, Act.put, List.setIfInBounds_toArray, List.set_cons_zero, List.set_cons_succ])
  refine wpAnyH_done (by kernel_rfl) ?_ _
  clear hH
  have ch5 := ch_12_16
  clear ch_12_16
  go_wp2
  have le1_ : Hid (Lz 101 (p + q)) := ((lzp_.out.mono (k := 100) (by omega)).add (lzq_.out.mono (k := 100) (by omega)))
  have ke1_ : Hid (Lz 1024 (p + q)) := le1_.out.mono (by omega)
  have le2_ : Hid (Lz 102 ((p + q) - q)) := ((le1_.out.mono (k := 101) (by omega)).sub (lzq_.out.mono (k := 101) (by omega)))
  have ke2_ : Hid (Lz 1024 ((p + q) - q)) := le2_.out.mono (by omega)
  have q13_ : Hid (((p + q) - q) = p) := Int.add_sub_cancel _ _
  have le3_ : Hid (Lz 101 (p - p)) := ((lzp_.out.mono (k := 100) (by omega)).sub (lzp_.out.mono (k := 100) (by omega)))
  have ke3_ : Hid (Lz 1024 (p - p)) := le3_.out.mono (by omega)
  have le4_ : Hid (Lz 1 (0)) := lz_one (by decide)
  have ke4_ : Hid (Lz 1024 (0)) := le4_.out.mono (by omega)
  have q14_ : Hid ((p - p) = (0)) := Int.sub_self _
  have le5_ : Hid (Lz 101 (p - q)) := ((lzp_.out.mono (k := 100) (by omega)).sub (lzq_.out.mono (k := 100) (by omega)))
  have ke5_ : Hid (Lz 1024 (p - q)) := le5_.out.mono (by omega)
  have le6_ : Hid (Lz 101 (q - p)) := ((lzq_.out.mono (k := 100) (by omega)).sub (lzp_.out.mono (k := 100) (by omega)))
  have ke6_ : Hid (Lz 1024 (q - p)) := le6_.out.mono (by omega)
  have le7_ : Hid (Lz 1 (-1)) := lz_one (by decide)
  have ke7_ : Hid (Lz 1024 (-1)) := le7_.out.mono (by omega)
  have le8_ : Hid (Lz 102 ((q - p) * (-1))) := (le6_.out.mul le7_.out)
  have ke8_ : Hid (Lz 1024 ((q - p) * (-1))) := le8_.out.mono (by omega)
  have q15_ : Hid ((p - q) = ((q - p) * (-1))) := (by show _ = _; omega)
  replace b0 := b0.drew
  replace b1 := b1.drew
  replace b2 := b2.drew
  replace zp := whz_drew zp
  replace zq := whz_drew zq
  replace zt := whz_drew zt
  have ch_16_0 := ch5.drew
  clear ch5
  have kk_16_0 := cells6 b0 b1 b2
  refine wp_region_held_drew (S := fun w' => w'.cell? ⟨w.heap.size, 0, none⟩ = some (.bool x) ∧ w'.cell? ⟨w.heap.size, 1, none⟩ = some (.slice A na ca) ∧ w'.cell? ⟨(w.heap.size + 1), 0, none⟩ = some (.bool y) ∧ w'.cell? ⟨(w.heap.size + 1), 1, none⟩ = some (.slice B nb cb) ∧ w'.cell? ⟨(w.heap.size + 2), 0, none⟩ = some (.bool z) ∧ w'.cell? ⟨(w.heap.size + 2), 1, none⟩ = some (.slice C nc cc)) (by kernel_rfl) kk_16_0 (fun hH => ?_)
  clear kk_16_0
  refine wpAnyH_take (i := 0) (v := ?_) rfl (by kernel_rfl) (by kernel_rfl) (by kernel_rfl) (fun _ _ _ h => h) (Or.inl ⟨by rfl, ?_⟩) (by assumption) ?_
  rotate_left
  · intro w' hSw
    (try dsimp only at hSw)
    obtain ⟨q0, q1, q2, q3, q4, q5⟩ := hSw
    go_simp
    try with_reducible rfl
  (try simp only [List.getElem_toArray, List.getElem_cons_zero, List.getElem_cons_succ, Act.put, List.setIfInBounds_toArray, List.set_cons_zero, List.set_cons_succ])
  refine wpAnyH_take (i := 1) (v := ?_) rfl (by kernel_rfl) (by kernel_rfl) (by kernel_rfl) (fun _ _ _ h => h) (Or.inl ⟨by rfl, ?_⟩) (by assumption) ?_
  rotate_left
  · intro w' hSw
    (try dsimp only at hSw)
    obtain ⟨q0, q1, q2, q3, q4, q5⟩ := hSw
    go_simp
    try with_reducible rfl
  (try simp only [List.getElem_toArray, List.getElem_cons_zero, List.getElem_cons_succ, Act.put, List.setIfInBounds_toArray, List.set_cons_zero, List.set_cons_succ])
  refine wpAnyH_take (i := 3) (v := ?_) rfl (by kernel_rfl) (by kernel_rfl) (by kernel_rfl) (fun _ _ _ h => h) (Or.inl ⟨by rfl, ?_⟩) (by assumption) ?_
  rotate_left
  · intro w' hSw
    (try dsimp only at hSw)
    obtain ⟨q0, q1, q2, q3, q4, q5⟩ := hSw
    go_simp
    try with_reducible rfl
  (try simp only [List.getElem_toArray, List.getElem_cons_zero, List.getElem_cons_succ, Act.put, List.setIfInBounds_toArray, List.set_cons_zero, List.set_cons_succ])
  refine wpAnyH_take (i := 5) (v := ?_) rfl (by kernel_rfl) (by kernel_rfl) (by kernel_rfl) (fun _ _ _ h => h) (Or.inl ⟨by rfl, ?_⟩) (by assumption) ?_
  rotate_left
  · intro w' hSw
    (try dsimp only at hSw)
    obtain ⟨q0, q1, q2, q3, q4, q5⟩ := hSw
    go_simp
    try with_reducible rfl
  (try simp only [List.getElem_toArray, List.getElem_cons_zero, List.getElem_cons_succ, Act.put, List.setIfInBounds_toArray, List.set_cons_zero, List.set_cons_succ])
  refine wpAnyH_ready (rs := [2]) (by kernel_rfl) (by simp) ?_
  refine AllReadyH.cons rfl (fun K hK => ?_) AllReadyH.nil
  go_simp
  refine (sumv zp zq kzp_.out kzq_.out ke1_.out).mono ?_
  rintro e w_16_1 ⟨ve1, rfl, e1, hb_16_1⟩
  replace b0 := b0.below hb_16_1 b0.lt
  replace b1 := b1.below hb_16_1 b1.lt
  replace b2 := b2.below hb_16_1 b2.lt
  replace zp := zp.below hb_16_1
  replace zq := zq.below hb_16_1
  replace zt := zt.below hb_16_1
  have ch_16_1 := ch_16_0.trans (hb_16_1.mono ch_16_0.size)
  refine hK.out _ _ (cells6 b0 b1 b2) (fun hH1 => ?_)
  clear hK K ch_16_0 hb_16_1 hH
  have hH := hH1
  clear hH1
  (try simp only [List.getElem_toArray, List.getElem_cons_zero, List.getElem_cons_succ, Act.put, List.setIfInBounds_toArray, List.set_cons_zero, List.set_cons_succ])
  refine wpAnyH_ready (rs := [4]) (by kernel_rfl) (by simp) ?_
  refine AllReadyH.cons rfl (fun K hK => ?_) AllReadyH.nil
  go_simp
  refine (lessv e1 zq ke1_.out kzq_.out ke2_.out).mono ?_
  rintro e w_16_2 ⟨ve2, rfl, e2, hb_16_2⟩
  replace b0 := b0.below hb_16_2 b0.lt
  replace b1 := b1.below hb_16_2 b1.lt
  replace b2 := b2.below hb_16_2 b2.lt
  replace zp := zp.below hb_16_2
  replace zq := zq.below hb_16_2
  replace zt := zt.below hb_16_2
  clear e1
  have ch_16_2 := ch_16_1.trans (hb_16_2.mono ch_16_1.size)
  refine hK.out _ _ (cells6 b0 b1 b2) (fun hH2 => ?_)
  clear hK K ch_16_1 hb_16_2 hH
  have hH := hH2
  clear hH2
  (try simp only [List.getElem_toArray, List.getElem_cons_zero, List.getElem_cons_succ, Act.put, List.setIfInBounds_toArray, List.set_cons_zero, List.set_cons_succ])
  refine wpAnyH_ready (rs := [6]) (by kernel_rfl) (by simp) ?_
  refine AllReadyH.cons rfl (fun K hK => ?_) AllReadyH.nil
  go_simp
  refine (equal_l e2 zp ke2_.out kzp_.out q13_.out).mono ?_
  rintro e w_16_3 ⟨rfl, hb_16_3⟩
  replace b0 := b0.below hb_16_3 b0.lt
  replace b1 := b1.below hb_16_3 b1.lt
  replace b2 := b2.below hb_16_3 b2.lt
  replace zp := zp.below hb_16_3
  replace zq := zq.below hb_16_3
  replace zt := zt.below hb_16_3
  clear e2
  have ch_16_3 := ch_16_2.trans (hb_16_3.mono ch_16_2.size)
  refine hK.out _ _ (cells6 b0 b1 b2) (fun hH3 => ?_)
  clear hK K ch_16_2 hb_16_3 hH
  have hH := hH3
  clear hH3
  (try simp only [List.getElem_toArray, List.getElem_cons_zero, List.getElem_cons_succ, Act.put, List.setIfInBounds_toArray, List.set_cons_zero, List.set_cons_succ])
  refine wpAnyH_take (i := 7) (v := ?_) rfl (by kernel_rfl) (by kernel_rfl) (by kernel_rfl) (fun _ _ _ h => h) (Or.inl ⟨by rfl, ?_⟩) (by assumption) ?_
  rotate_left
  · intro w' hSw
    (try dsimp only at hSw)
    obtain ⟨q0, q1, q2, q3, q4, q5⟩ := hSw
    go_simp
    try with_reducible rfl
  (try simp only [List.getElem_toArray, List.getElem_cons_zero, List.getElem_cons_succ, Act.put, List.setIfInBounds_toArray, List.set_cons_zero, List.set_cons_succ])
  refine wpAnyH_take (i := 8) (v := ?_) rfl (by kernel_rfl) (by kernel_rfl) (by kernel_rfl) (fun _ _ _ h => h) (Or.inl ⟨by rfl, ?_⟩) (by assumption) ?_
  rotate_left
  · intro w' hSw
    (try dsimp only at hSw)
    obtain ⟨q0, q1, q2, q3, q4, q5⟩ := hSw
    go_simp
    try with_reducible rfl
  (try simp only [List.getElem_toArray, List.getElem_cons_zero, List.getElem_cons_succ, Act.put, List.setIfInBounds_toArray, List.set_cons_zero, List.set_cons_succ])
  refine wpAnyH_take (i := 9) (v := ?_) rfl (by kernel_rfl) (by kernel_rfl) (by kernel_rfl) (fun _ _ _ h => h) (Or.inl ⟨by rfl, ?_⟩) (by assumption) ?_
  rotate_left
  · intro w' hSw
    (try dsimp only at hSw)
    obtain ⟨q0, q1, q2, q3, q4, q5⟩ := hSw
    go_simp
    try with_reducible rfl
  (try simp only [List.getElem_toArray, List.getElem_cons_zero, List.getElem_cons_succ, Act.put, List.setIfInBounds_toArray, List.set_cons_zero, List.set_cons_succ])
  refine wpAnyH_ready (rs := [10]) (by kernel_rfl) (by simp) ?_
  refine AllReadyH.cons rfl (fun K hK => ?_) AllReadyH.nil
  go_simp
  refine (lessv zp zp kzp_.out kzp_.out ke3_.out).mono ?_
  rintro e w_16_4 ⟨ve3, rfl, e3, hb_16_4⟩
  replace b0 := b0.below hb_16_4 b0.lt
  replace b1 := b1.below hb_16_4 b1.lt
  replace b2 := b2.below hb_16_4 b2.lt
  replace zp := zp.below hb_16_4
  replace zq := zq.below hb_16_4
  replace zt := zt.below hb_16_4
  have ch_16_4 := ch_16_3.trans (hb_16_4.mono ch_16_3.size)
  refine hK.out _ _ (cells6 b0 b1 b2) (fun hH4 => ?_)
  clear hK K ch_16_3 hb_16_4 hH
  have hH := hH4
  clear hH4
  (try simp only [List.getElem_toArray, List.getElem_cons_zero, List.getElem_cons_succ, Act.put, List.setIfInBounds_toArray, List.set_cons_zero, List.set_cons_succ])
  refine wpAnyH_ready (rs := [11]) (by kernel_rfl) (by simp) ?_
  refine AllReadyH.cons rfl (fun K hK => ?_) AllReadyH.nil
  go_simp
  refine (num_wh (0) _ (by omega) (by omega)).mono ?_
  rintro e w_16_5 ⟨ve4, rfl, e4, hb_16_5⟩
  replace b0 := b0.below hb_16_5 b0.lt
  replace b1 := b1.below hb_16_5 b1.lt
  replace b2 := b2.below hb_16_5 b2.lt
  replace zp := zp.below hb_16_5
  replace zq := zq.below hb_16_5
  replace zt := zt.below hb_16_5
  replace e3 := e3.below hb_16_5
  have ch_16_5 := ch_16_4.trans (hb_16_5.mono ch_16_4.size)
  refine hK.out _ _ (cells6 b0 b1 b2) (fun hH5 => ?_)
  clear hK K ch_16_4 hb_16_5 hH
  have hH := hH5
  clear hH5
  (try simp only [List.getElem_toArray, List.getElem_cons_zero, List.getElem_cons_succ, Act.put, List.setIfInBounds_toArray, List.set_cons_zero, List.set_cons_succ])
  refine wpAnyH_ready (rs := [12]) (by kernel_rfl) (by simp) ?_
  refine AllReadyH.cons rfl (fun K hK => ?_) AllReadyH.nil
  go_simp
  refine (equal_l e3 e4 ke3_.out ke4_.out q14_.out).mono ?_
  rintro e w_16_6 ⟨rfl, hb_16_6⟩
  replace b0 := b0.below hb_16_6 b0.lt
  replace b1 := b1.below hb_16_6 b1.lt
  replace b2 := b2.below hb_16_6 b2.lt
  replace zp := zp.below hb_16_6
  replace zq := zq.below hb_16_6
  replace zt := zt.below hb_16_6
  clear e3
  clear e4
  have ch_16_6 := ch_16_5.trans (hb_16_6.mono ch_16_5.size)
  refine hK.out _ _ (cells6 b0 b1 b2) (fun hH6 => ?_)
  clear hK K ch_16_5 hb_16_6 hH
  have hH := hH6
  clear hH6
  (try simp only [List.getElem_toArray, List.getElem_cons_zero, List.getElem_cons_succ, Act.put, List.setIfInBounds_toArray, List.set_cons_zero, List.set_cons_succ])
  refine wpAnyH_take (i := 13) (v := ?_) rfl (by kernel_rfl) (by kernel_rfl) (by kernel_rfl) (fun _ _ _ h => h) (Or.inl ⟨by rfl, ?_⟩) (by assumption) ?_
  rotate_left
  · intro w' hSw
    (try dsimp only at hSw)
    obtain ⟨q0, q1, q2, q3, q4, q5⟩ := hSw
    go_simp
    try with_reducible rfl
  (try simp only [List.getElem_toArray, List.getElem_cons_zero, List.getElem_cons_succ, Act.put, List.setIfInBounds_toArray, List.set_cons_zero, List.set_cons_succ])
  refine wpAnyH_take (i := 14) (v := ?_) rfl (by kernel_rfl) (by kernel_rfl) (by kernel_rfl) (fun _ _ _ h => h) (Or.inl ⟨by rfl, ?_⟩) (by assumption) ?_
  rotate_left
  · intro w' hSw
    (try dsimp only at hSw)
    obtain ⟨q0, q1, q2, q3, q4, q5⟩ := hSw
    go_simp
    try with_reducible rfl
  (try simp only [List.getElem_toArray, List.getElem_cons_zero, List.getElem_cons_succ, Act.put, List.setIfInBounds_toArray, List.set_cons_zero, List.set_cons_succ])
  refine wpAnyH_take (i := 15) (v := ?_) rfl (by kernel_rfl) (by kernel_rfl) (by kernel_rfl) (fun _ _ _ h => h) (Or.inl ⟨by rfl, ?_⟩) (by assumption) ?_
  rotate_left
  · intro w' hSw
    (try dsimp only at hSw)
    obtain ⟨q0, q1, q2, q3, q4, q5⟩ := hSw
    go_simp
    try with_reducible rfl
  (try simp only [List.getElem_toArray, List.getElem_cons_zero, List.getElem_cons_succ, Act.put, List.setIfInBounds_toArray, List.set_cons_zero, List.set_cons_succ])
  refine wpAnyH_take (i := 16) (v := ?_) rfl (by kernel_rfl) (by kernel_rfl) (by kernel_rfl) (fun _ _ _ h => h) (Or.inl ⟨by rfl, ?_⟩) (by assumption) ?_
  rotate_left
  · intro w' hSw
    (try dsimp only at hSw)
    obtain ⟨q0, q1, q2, q3, q4, q5⟩ := hSw
    go_simp
    try with_reducible rfl
  (try simp only [List.getElem_toArray, List.getElem_cons_zero, List.getElem_cons_succ, Act.put, List.setIfInBounds_toArray, List.set_cons_zero, List.set_cons_succ])
  refine wpAnyH_take (i := 18) (v := ?_) rfl (by kernel_rfl) (by kernel_rfl) (by kernel_rfl) (fun _ _ _ h => h) (Or.inl ⟨by rfl, ?_⟩) (by assumption) ?_
  rotate_left
  · intro w' hSw
    (try dsimp only at hSw)
    obtain ⟨q0, q1, q2, q3, q4, q5⟩ := hSw
    go_simp
    try with_reducible rfl
  (try simp only [List.getElem_toArray, List.getElem_cons_zero, List.getElem_cons_succ, Act.put, List.setIfInBounds_toArray, List.set_cons_zero, List.set_cons_succ])
  refine wpAnyH_take (i := 19) (v := ?_) rfl (by kernel_rfl) (by kernel_rfl) (by kernel_rfl) (fun _ _ _ h => h) (Or.inl ⟨by rfl, ?_⟩) (by assumption) ?_
  rotate_left
  · intro w' hSw
    (try dsimp only at hSw)
    obtain ⟨q0, q1, q2, q3, q4, q5⟩ := hSw
    go_simp
    try with_reducible rfl
  (try simp only [List.getElem_toArray, List.getElem_cons_zero, List.getElem_cons_succ, Act.put, List.setIfInBounds_toArray, List.set_cons_zero, List.set_cons_succ])
  refine wpAnyH_ready (rs := [17]) (by kernel_rfl) (by simp) ?_
  refine AllReadyH.cons rfl (fun K hK => ?_) AllReadyH.nil
  go_simp
  refine (lessv zp zq kzp_.out kzq_.out ke5_.out).mono ?_
  rintro e w_16_7 ⟨ve5, rfl, e5, hb_16_7⟩
  replace b0 := b0.below hb_16_7 b0.lt
  replace b1 := b1.below hb_16_7 b1.lt
  replace b2 := b2.below hb_16_7 b2.lt
  replace zp := zp.below hb_16_7
  replace zq := zq.below hb_16_7
  replace zt := zt.below hb_16_7
  have ch_16_7 := ch_16_6.trans (hb_16_7.mono ch_16_6.size)
  refine hK.out _ _ (cells6 b0 b1 b2) (fun hH7 => ?_)
  clear hK K ch_16_6 hb_16_7 hH
  have hH := hH7
  clear hH7
  (try simp only [List.getElem_toArray, List.getElem_cons_zero, List.getElem_cons_succ, Act.put, List.setIfInBounds_toArray, List.set_cons_zero, List.set_cons_succ])
  refine wpAnyH_ready (rs := [20]) (by kernel_rfl) (by simp) ?_
  refine AllReadyH.cons rfl (fun K hK => ?_) AllReadyH.nil
  go_simp
  refine (lessv zq zp kzq_.out kzp_.out ke6_.out).mono ?_
  rintro e w_16_8 ⟨ve6, rfl, e6, hb_16_8⟩
  replace b0 := b0.below hb_16_8 b0.lt
  replace b1 := b1.below hb_16_8 b1.lt
  replace b2 := b2.below hb_16_8 b2.lt
  replace zp := zp.below hb_16_8
  replace zq := zq.below hb_16_8
  replace zt := zt.below hb_16_8
  replace e5 := e5.below hb_16_8
  have ch_16_8 := ch_16_7.trans (hb_16_8.mono ch_16_7.size)
  refine hK.out _ _ (cells6 b0 b1 b2) (fun hH8 => ?_)
  clear hK K ch_16_7 hb_16_8 hH
  have hH := hH8
  clear hH8
  (try simp only [List.getElem_toArray, List.getElem_cons_zero, List.getElem_cons_succ, Act.put, List.setIfInBounds_toArray, List.set_cons_zero, List.set_cons_succ])
  refine wpAnyH_ready (rs := [21]) (by kernel_rfl) (by simp) ?_
  refine AllReadyH.cons rfl (fun K hK => ?_) AllReadyH.nil
  go_simp
  refine (num_wh (-1) _ (by omega) (by omega)).mono ?_
  rintro e w_16_9 ⟨ve7, rfl, e7, hb_16_9⟩
  replace b0 := b0.below hb_16_9 b0.lt
  replace b1 := b1.below hb_16_9 b1.lt
  replace b2 := b2.below hb_16_9 b2.lt
  replace zp := zp.below hb_16_9
  replace zq := zq.below hb_16_9
  replace zt := zt.below hb_16_9
  replace e5 := e5.below hb_16_9
  replace e6 := e6.below hb_16_9
  have ch_16_9 := ch_16_8.trans (hb_16_9.mono ch_16_8.size)
  refine hK.out _ _ (cells6 b0 b1 b2) (fun hH9 => ?_)
  clear hK K ch_16_8 hb_16_9 hH
  have hH := hH9
  clear hH9
  (try simp only [List.getElem_toArray, List.getElem_cons_zero, List.getElem_cons_succ, Act.put, List.setIfInBounds_toArray, List.set_cons_zero, List.set_cons_succ])
  refine wpAnyH_ready (rs := [22]) (by kernel_rfl) (by simp) ?_
  refine AllReadyH.cons rfl (fun K hK => ?_) AllReadyH.nil
  go_simp
  refine (prodv e6 e7 ke6_.out ke7_.out ke8_.out).mono ?_
  rintro e w_16_10 ⟨ve8, rfl, e8, hb_16_10⟩
  replace b0 := b0.below hb_16_10 b0.lt
  replace b1 := b1.below hb_16_10 b1.lt
  replace b2 := b2.below hb_16_10 b2.lt
  replace zp := zp.below hb_16_10
  replace zq := zq.below hb_16_10
  replace zt := zt.below hb_16_10
  replace e5 := e5.below hb_16_10
  clear e6
  clear e7
  have ch_16_10 := ch_16_9.trans (hb_16_10.mono ch_16_9.size)
  refine hK.out _ _ (cells6 b0 b1 b2) (fun hH10 => ?_)
  clear hK K ch_16_9 hb_16_10 hH
  have hH := hH10
  clear hH10
  (try simp only [List.getElem_toArray, List.getElem_cons_zero, List.getElem_cons_succ, Act.put, List.setIfInBounds_toArray, List.set_cons_zero, List.set_cons_succ])
  refine wpAnyH_ready (rs := [23]) (by kernel_rfl) (by simp) ?_
  refine AllReadyH.cons rfl (fun K hK => ?_) AllReadyH.nil
  go_simp
  refine (equal_l e5 e8 ke5_.out ke8_.out q15_.out).mono ?_
  rintro e w_16_11 ⟨rfl, hb_16_11⟩
  replace b0 := b0.below hb_16_11 b0.lt
  replace b1 := b1.below hb_16_11 b1.lt
  replace b2 := b2.below hb_16_11 b2.lt
  replace zp := zp.below hb_16_11
  replace zq := zq.below hb_16_11
  replace zt := zt.below hb_16_11
  clear e5
  clear e8
  have ch_16_11 := ch_16_10.trans (hb_16_11.mono ch_16_10.size)
  refine hK.out _ _ (cells6 b0 b1 b2) (fun hH11 => ?_)
  clear hK K ch_16_10 hb_16_11 hH
  have hH := hH11
  clear hH11
  (try simp only [List.getElem_toArray, List.getElem_cons_zero, List.getElem_cons_succ, Act.put, List.setIfInBounds_toArray, List.set_cons_zero, List.set_cons_succ])
  refine wpAnyH_take (i := 24) (v := ?_) rfl (by kernel_rfl) (by kernel_rfl) (by kernel_rfl) (fun _ _ _ h => h) (Or.inl ⟨by rfl, ?_⟩) (by assumption) ?_
  rotate_left
  · intro w' hSw
    (try dsimp only at hSw)
    obtain ⟨q0, q1, q2, q3, q4, q5⟩ := hSw
    go_simp
    try with_reducible rfl
  (try simp only [List.getElem_toArray, List.getElem_cons_zero, List.getElem_cons_succ, Act.put, List.setIfInBounds_toArray, List.set_cons_zero, List.set_cons_succ])
  refine wpAnyH_take (i := 25) (v := ?_) rfl (by kernel_rfl) (by kernel_rfl) (by kernel_rfl) (fun _ _ _ h => h) (Or.inl ⟨by rfl, ?_⟩) (by assumption) ?_
  rotate_left
  · intro w' hSw
    (try dsimp only at hSw)
    obtain ⟨q0, q1, q2, q3, q4, q5⟩ := hSw
    go_simp
    try with_reducible rfl
  (try simp only [List.getElem_toArray, List.getElem_cons_zero, List.getElem_cons_succ, Act.put, List.setIfInBounds_toArray, List.set_cons_zero, List.set_cons_succ])
  refine wpAnyH_done (by kernel_rfl) ?_ _
  clear hH
  have ch6 := ch_16_11
  clear ch_16_11
  go_wp2
  go_ret
  exact ⟨rfl, ch6⟩

theorem ring_any {w : World} {va vb vc : Value} {x y z : Bool} {la lb lc : List Nat} (ha : Wh w va x la) (hb : Wh w vb y lb) (hc : Wh w vc z lc) :
    Calls Try.prog 6 #[va, vb, vc] w fun e w' => e = .returned (.bool true) ∧ Below w.heap.size w w' := by
  obtain ⟨A, ca, rfl, sa⟩ := ha
  obtain ⟨B, cb, rfl, sb⟩ := hb
  obtain ⟨C, cc, rfl, sc⟩ := hc
  cases hu : (uB 100 x la && uB 100 y lb && uB 100 z lc) with
  | false => exact ring_not sa rfl sb rfl sc rfl hu
  | true =>
    simp only [Bool.and_eq_true] at hu
    exact ring_ok sa rfl sb rfl sc rfl hu.1.1 hu.1.2 hu.2
end Go.Proofs.Ytgnidjhfiagfnaa
