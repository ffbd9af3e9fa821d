/- WholeDivides' function returns true. Conditions: the numbers lie in memory. -/
import Derived.Deep.RegionHeld3
import Derived.Deep.CutRange
import Derived.Test.YtgnidjhfiagfnaaYj
import Derived.Test.YtgnidjhfiagfnaaXr
namespace Go.Proofs.Ytgnidjhfiagfnaa
open Go.RowKit

theorem zv_sign {x : Bool} {l : List Nat} (hl : Limbs l) (hv : validB x l = true) : decide (zv x l < 0) = x := by
  have hn := valid_norm hl hv
  unfold zv
  cases x
  · simp
  · have := hn.2.2 rfl
    simp; omega
/-- Two new variables of the type api.Whole, in whichever order they were made. -/
def TwoNew (w wx : World) (v1 v2 : Value) (c1 c2 : Array Value) : Prop := ∃ g h : Nat, v1 = .pointer (some ⟨g, 0, none⟩) ∧ v2 = .pointer (some ⟨h, 0, none⟩) ∧ w.heap.size ≤ g ∧ w.heap.size ≤ h ∧ g ≠ h ∧ Blk wx g 26 c1 ∧ Blk wx h 26 c2 ∧ Below w.heap.size w wx
theorem twoNew_a (w : World) (c1 c2 : Array Value) : TwoNew w ((w.alloc (.cells c1 26)).alloc (.cells c2 26)).drew (.pointer (some ⟨w.heap.size, 0, none⟩)) (.pointer (some ⟨w.heap.size + 1, 0, none⟩)) c1 c2 := by
  refine ⟨_, _, rfl, rfl, Nat.le_refl _, by omega, by omega, (Blk.new w 26 c1).alloc _, ?_, (((Below.refl _ _).alloc (Nat.le_refl _) _).alloc (by simp) _).drew⟩
  have := Blk.new (w.alloc (.cells c1 26)) 26 c2
  rwa [World.size_alloc] at this
theorem twoNew_b (w : World) (c1 c2 : Array Value) : TwoNew w ((w.alloc (.cells c2 26)).alloc (.cells c1 26)).drew (.pointer (some ⟨w.heap.size + 1, 0, none⟩)) (.pointer (some ⟨w.heap.size, 0, none⟩)) c1 c2 := by
  refine ⟨_, _, rfl, rfl, by omega, Nat.le_refl _, by omega, ?_, (Blk.new w 26 c2).alloc _, (((Below.refl _ _).alloc (Nat.le_refl _) _).alloc (by simp) _).drew⟩
  have := Blk.new (w.alloc (.cells c2 26)) 26 c1
  rwa [World.size_alloc] at this

/-- Two new variables that hold the numbers z1 and z2. -/
def TwoZ (w wx : World) (v1 v2 : Value) (z1 z2 : Int) : Prop := ∃ (g h : Nat) (b1 : Bool) (A1 : Option Addr) (n1 c1 : Nat) (b2 : Bool) (A2 : Option Addr) (n2 c2 : Nat), v1 = .pointer (some ⟨g, 0, none⟩) ∧ v2 = .pointer (some ⟨h, 0, none⟩) ∧ w.heap.size ≤ g ∧ w.heap.size ≤ h ∧ g ≠ h ∧
  Blk wx g 26 #[.bool b1, .slice A1 n1 c1] ∧ Blk wx h 26 #[.bool b2, .slice A2 n2 c2] ∧ WhZ wx (.agg #[.bool b1, .slice A1 n1 c1]) z1 ∧ WhZ wx (.agg #[.bool b2, .slice A2 n2 c2]) z2 ∧ Below w.heap.size w wx
theorem twoZ_a {w w2 : World} {b1 b2 : Bool} {A1 A2 : Option Addr} {n1 c1 n2 c2 : Nat} {z1 z2 : Int} (hb : Below w.heap.size w.drew w2) (h1 : WhZ w2 (.agg #[.bool b1, .slice A1 n1 c1]) z1) (h2 : WhZ w2 (.agg #[.bool b2, .slice A2 n2 c2]) z2) :
    TwoZ w ((w2.alloc (.cells #[.bool b1, .slice A1 n1 c1] 26)).alloc (.cells #[.bool b2, .slice A2 n2 c2] 26)) (.pointer (some ⟨w2.heap.size, 0, none⟩)) (.pointer (some ⟨w2.heap.size + 1, 0, none⟩)) z1 z2 := by
  have hw : Below w.heap.size w w2 := ((Below.refl w.heap.size w).drew).trans hb
  have ba : Below w2.heap.size w2 ((w2.alloc (.cells #[.bool b1, .slice A1 n1 c1] 26)).alloc (.cells #[.bool b2, .slice A2 n2 c2] 26)) := ((Below.refl _ _).alloc (Nat.le_refl _) _).alloc (by simp) _
  refine ⟨_, _, b1, A1, n1, c1, b2, A2, n2, c2, rfl, rfl, hw.size, by have := hw.size; omega, by omega, (Blk.new w2 26 _).alloc _, ?_, h1.below ba, h2.below ba, hw.trans (ba.mono hw.size)⟩
  have := Blk.new (w2.alloc (.cells #[.bool b1, .slice A1 n1 c1] 26)) 26 #[.bool b2, .slice A2 n2 c2]
  rwa [World.size_alloc] at this
theorem twoZ_b {w w2 : World} {b1 b2 : Bool} {A1 A2 : Option Addr} {n1 c1 n2 c2 : Nat} {z1 z2 : Int} (hb : Below w.heap.size w.drew w2) (h1 : WhZ w2 (.agg #[.bool b1, .slice A1 n1 c1]) z1) (h2 : WhZ w2 (.agg #[.bool b2, .slice A2 n2 c2]) z2) :
    TwoZ w ((w2.alloc (.cells #[.bool b2, .slice A2 n2 c2] 26)).alloc (.cells #[.bool b1, .slice A1 n1 c1] 26)) (.pointer (some ⟨w2.heap.size + 1, 0, none⟩)) (.pointer (some ⟨w2.heap.size, 0, none⟩)) z1 z2 := by
  have hw : Below w.heap.size w w2 := ((Below.refl w.heap.size w).drew).trans hb
  have ba : Below w2.heap.size w2 ((w2.alloc (.cells #[.bool b2, .slice A2 n2 c2] 26)).alloc (.cells #[.bool b1, .slice A1 n1 c1] 26)) := ((Below.refl _ _).alloc (Nat.le_refl _) _).alloc (by simp) _
  refine ⟨_, _, b1, A1, n1, c1, b2, A2, n2, c2, rfl, rfl, by have := hw.size; omega, hw.size, by omega, ?_, (Blk.new w2 26 _).alloc _, h1.below ba, h2.below ba, hw.trans (ba.mono hw.size)⟩
  have := Blk.new (w2.alloc (.cells #[.bool b2, .slice A2 n2 c2] 26)) 26 #[.bool b1, .slice A1 n1 c1]
  rwa [World.size_alloc] at this
theorem cellsD4 {w : World} {M N : Nat} {a b c d : Value} (h0 : Blk w M 26 #[a, b]) (h1 : Blk w N 26 #[c, d]) :
    w.cell? ⟨M, 0, none⟩ = some a ∧ w.cell? ⟨M, 1, none⟩ = some b ∧ w.cell? ⟨N, 0, none⟩ = some c ∧ w.cell? ⟨N, 1, none⟩ = some d :=
  ⟨h0.cell 0, h0.cell 1, h1.cell 0, h1.cell 1⟩
theorem lz_more {k : Nat} {y z : Int} (h : Lz k y) (hz : z.natAbs ≤ y.natAbs + 1) : Lz (k + 1) z := by
  rw [lz_iff] at h ⊢
  have := Nat.one_le_two_pow (n := k)
  have e : 65536 ^ (k + 1) = 65536 ^ k * 65536 := Nat.pow_succ ..
  omega
theorem qz_abs (y z : Int) : (qz y z).natAbs ≤ y.natAbs + 1 := by
  unfold qz sgn qN
  have := Nat.div_le_self y.natAbs z.natAbs
  generalize y.natAbs / z.natAbs = d at *
  repeat' split
  all_goals omega
theorem cellsD12 {w : World} {M N K G H F : Nat} {a b c d e f g h i j k l : Value} (h0 : Blk w M 26 #[a, b]) (h1 : Blk w N 26 #[c, d]) (h2 : Blk w K 26 #[e, f]) (h3 : Blk w G 26 #[g, h]) (h4 : Blk w H 26 #[i, j]) (h5 : Blk w F 26 #[k, l]) :
    w.cell? ⟨M, 0, none⟩ = some a ∧ w.cell? ⟨M, 1, none⟩ = some b ∧ w.cell? ⟨N, 0, none⟩ = some c ∧ w.cell? ⟨N, 1, none⟩ = some d ∧ w.cell? ⟨K, 0, none⟩ = some e ∧ w.cell? ⟨K, 1, none⟩ = some f ∧ w.cell? ⟨G, 0, none⟩ = some g ∧ w.cell? ⟨G, 1, none⟩ = some h ∧ w.cell? ⟨H, 0, none⟩ = some i ∧ w.cell? ⟨H, 1, none⟩ = some j ∧ w.cell? ⟨F, 0, none⟩ = some k ∧ w.cell? ⟨F, 1, none⟩ = some l :=
  ⟨h0.cell 0, h0.cell 1, h1.cell 0, h1.cell 1, h2.cell 0, h2.cell 1, h3.cell 0, h3.cell 1, h4.cell 0, h4.cell 1, h5.cell 0, h5.cell 1⟩
theorem cellsD8 {w : World} {M N K G : Nat} {a b c d e f g h : Value} (h0 : Blk w M 26 #[a, b]) (h1 : Blk w N 26 #[c, d]) (h2 : Blk w K 26 #[e, f]) (h3 : Blk w G 26 #[g, h]) :
    w.cell? ⟨M, 0, none⟩ = some a ∧ w.cell? ⟨M, 1, none⟩ = some b ∧ w.cell? ⟨N, 0, none⟩ = some c ∧ w.cell? ⟨N, 1, none⟩ = some d ∧ w.cell? ⟨K, 0, none⟩ = some e ∧ w.cell? ⟨K, 1, none⟩ = some f ∧ w.cell? ⟨G, 0, none⟩ = some g ∧ w.cell? ⟨G, 1, none⟩ = some h :=
  ⟨h0.cell 0, h0.cell 1, h1.cell 0, h1.cell 1, h2.cell 0, h2.cell 1, h3.cell 0, h3.cell 1⟩

set_option maxRecDepth 100000 in
set_option maxHeartbeats 20000000 in
theorem div_not {x y : Bool} {la lb : List Nat} {A B : Option Addr} {na ca nb cb : Nat} {w : World} (sa : Sl w (.slice A na ca) la) (hna : Hid (la.length = na)) (sb : Sl w (.slice B nb cb) lb) (hnb : Hid (lb.length = nb)) (hu : (uB 200 x la && uB 200 y lb) = false) :
  Calls Try.prog 5 #[.agg #[.bool x, .slice A na ca], .agg #[.bool y, .slice B nb cb]] w fun e w' => e = .returned (.bool true) ∧ Below w.heap.size w w' := by
  have b0 : Blk ((w.alloc (.cells #[.bool x, .slice A na ca] 26)).alloc (.cells #[.bool y, .slice B nb cb] 26)) w.heap.size 26 #[.bool x, .slice A na ca] := by
    have := ((Blk.new w 26 #[.bool x, .slice A na ca]).alloc (.cells #[.bool y, .slice B nb cb] 26))
    exact this
  have b1 : Blk ((w.alloc (.cells #[.bool x, .slice A na ca] 26)).alloc (.cells #[.bool y, .slice B nb cb] 26)) (w.heap.size + 1) 26 #[.bool y, .slice B nb cb] := by
    have := (Blk.new (w.alloc (.cells #[.bool x, .slice A na ca] 26)) 26 #[.bool y, .slice B nb cb])
    rwa [World.size_alloc] at this
  have bw : Below w.heap.size w ((w.alloc (.cells #[.bool x, .slice A na ca] 26)).alloc (.cells #[.bool y, .slice B nb cb] 26)) := (by repeat (first | exact Below.refl _ _ | assumption | refine Below.alloc ?_ (by first | (simp; done) | (simp; omega) | omega) _ | refine Below.setCell ?_ (by first | (simp; done) | (simp; omega) | omega) _ | refine Below.drew ?_))
  replace sa := sa.below bw
  replace sb := sb.below bw
  go_enter Try.func5, Try.ntmps5
  go_wp2_with fail
  refine (awake_any _).mono ?_
  rintro e u1 ⟨rfl, h1⟩
  have ch1 := bw.trans (h1.mono bw.size)
  replace b0 := b0.below h1 b0.lt
  replace b1 := b1.below h1 b1.lt
  replace sa := sa.below h1
  replace sb := sb.below h1
  have c0b0 := (b0.cell 0).trans (b := some (Value.bool x)) rfl
  have c1b0 := (b0.cell 1).trans (b := some (Value.slice A na ca)) rfl
  have c0b1 := (b1.cell 0).trans (b := some (Value.bool y)) rfl
  have c1b1 := (b1.cell 1).trans (b := some (Value.slice B nb cb)) rfl
  have al : Below u1.heap.size u1 (u1.alloc (.cells #[.bool x, .slice A na ca, .bool y, .slice B nb cb] 26)) := (Below.refl _ _).alloc (Nat.le_refl _) _
  have bk : Blk (u1.alloc (.cells #[.bool x, .slice A na ca, .bool y, .slice B nb cb] 26)) u1.heap.size 26 #[.bool x, .slice A na ca, .bool y, .slice B nb cb] := Blk.new _ _ _
  go_wp2_with fail
  clear c0b0 c1b0 c0b1 c1b1
  have ch2 := ch1.trans (al.mono ch1.size)
  replace b0 := b0.below al b0.lt
  replace b1 := b1.below al b1.lt
  replace sa := sa.below al
  replace sb := sb.below al
  refine (usable2 (most := 200) (by omega) sa hna sb hnb bk).mono ?_
  rintro e u2 ⟨rfl, h2⟩
  rw [hu]
  clear bk al
  have ch3 := ch2.trans (h2.mono ch2.size)
  replace b0 := b0.below h2 b0.lt
  replace b1 := b1.below h2 b1.lt
  replace sa := sa.below h2
  replace sb := sb.below h2
  go_wp2
  go_ret
  exact ⟨rfl, ch3⟩

set_option maxRecDepth 100000 in
set_option maxHeartbeats 20000000 in
theorem div_ok {x y : Bool} {la lb : List Nat} {A B : Option Addr} {na ca nb cb : Nat} {w : World} (sa : Sl w (.slice A na ca) la) (hna : Hid (la.length = na)) (sb : Sl w (.slice B nb cb) lb) (hnb : Hid (lb.length = nb)) (hu0 : uB 200 x la = true) (hu1 : uB 200 y lb = true) (hlb : lb ≠ []) :
  Calls Try.prog 5 #[.agg #[.bool x, .slice A na ca], .agg #[.bool y, .slice B nb cb]] w fun e w' => e = .returned (.bool true) ∧ Below w.heap.size w w' := by
  have b0 : Blk ((w.alloc (.cells #[.bool x, .slice A na ca] 26)).alloc (.cells #[.bool y, .slice B nb cb] 26)) w.heap.size 26 #[.bool x, .slice A na ca] := by
    have := ((Blk.new w 26 #[.bool x, .slice A na ca]).alloc (.cells #[.bool y, .slice B nb cb] 26))
    exact this
  have b1 : Blk ((w.alloc (.cells #[.bool x, .slice A na ca] 26)).alloc (.cells #[.bool y, .slice B nb cb] 26)) (w.heap.size + 1) 26 #[.bool y, .slice B nb cb] := by
    have := (Blk.new (w.alloc (.cells #[.bool x, .slice A na ca] 26)) 26 #[.bool y, .slice B nb cb])
    rwa [World.size_alloc] at this
  have bw : Below w.heap.size w ((w.alloc (.cells #[.bool x, .slice A na ca] 26)).alloc (.cells #[.bool y, .slice B nb cb] 26)) := (by repeat (first | exact Below.refl _ _ | assumption | refine Below.alloc ?_ (by first | (simp; done) | (simp; omega) | omega) _ | refine Below.setCell ?_ (by first | (simp; done) | (simp; omega) | omega) _ | refine Below.drew ?_))
  replace sa := sa.below bw
  replace sb := sb.below bw
  have hu : (uB 200 x la && uB 200 y lb) = true := by rw [hu0, hu1]; rfl
  have hsq := zv_sign (x := y) sb.1 (uB_lz (wh_of_sl (x := y) sb hnb) hu1).1
  have hq0 : zv y lb ≠ 0 := by
    have hn := valid_norm sb.1 (uB_lz (wh_of_sl (x := y) sb hnb) hu1).1
    have h1 : val lb ≠ 0 := fun e => hlb (by have := hn.1.2; rw [e, digs_zero] at this; exact this.symm)
    unfold zv; split <;> omega
  have hnb0 : 0 < nb := by
    have := hnb.out
    have h2 : lb.length ≠ 0 := fun e => hlb (List.eq_nil_of_length_eq_zero e)
    omega
  have hnb1 : nb ≤ 200 := by have := hnb.out; have := (uB_lz (wh_of_sl (x := y) sb hnb) hu1).2.2; unfold uB at hu1; simp at hu1; omega
  have hnb2 : ((nb : Int) == 0) = false := by rw [beq_eq_false_iff_ne]; omega
  go_enter Try.func5, Try.ntmps5
  go_wp2_with fail
  refine (awake_any _).mono ?_
  rintro e u1 ⟨rfl, h1⟩
  have ch1 := bw.trans (h1.mono bw.size)
  replace b0 := b0.below h1 b0.lt
  replace b1 := b1.below h1 b1.lt
  replace sa := sa.below h1
  replace sb := sb.below h1
  have c0b0 := (b0.cell 0).trans (b := some (Value.bool x)) rfl
  have c1b0 := (b0.cell 1).trans (b := some (Value.slice A na ca)) rfl
  have c0b1 := (b1.cell 0).trans (b := some (Value.bool y)) rfl
  have c1b1 := (b1.cell 1).trans (b := some (Value.slice B nb cb)) rfl
  have al : Below u1.heap.size u1 (u1.alloc (.cells #[.bool x, .slice A na ca, .bool y, .slice B nb cb] 26)) := (Below.refl _ _).alloc (Nat.le_refl _) _
  have bk : Blk (u1.alloc (.cells #[.bool x, .slice A na ca, .bool y, .slice B nb cb] 26)) u1.heap.size 26 #[.bool x, .slice A na ca, .bool y, .slice B nb cb] := Blk.new _ _ _
  go_wp2_with fail
  clear c0b0 c1b0 c0b1 c1b1
  have ch2 := ch1.trans (al.mono ch1.size)
  replace b0 := b0.below al b0.lt
  replace b1 := b1.below al b1.lt
  replace sa := sa.below al
  replace sb := sb.below al
  refine (usable2 (most := 200) (by omega) sa hna sb hnb bk).mono ?_
  rintro e u2 ⟨rfl, h2⟩
  rw [hu]
  clear bk al
  have ch3 := ch2.trans (h2.mono ch2.size)
  replace b0 := b0.below h2 b0.lt
  replace b1 := b1.below h2 b1.lt
  replace sa := sa.below h2
  replace sb := sb.below h2
  have HSQ : Hid (decide (zv y lb < 0) = y) := hsq
  clear hsq
  have hz0 := uB_lz (wh_of_sl (x := x) sa hna) hu0
  obtain ⟨p, hp⟩ : ∃ p, zv x la = p := ⟨_, rfl⟩
  rw [hp] at hz0
  have zp := hz0.2.1
  have lzp_ : Hid (Lz 200 p) := hz0.2.2
  have kzp_ : Hid (Lz 1024 p) := lzp_.out.mono (by omega)
  have hz1 := uB_lz (wh_of_sl (x := y) sb hnb) hu1
  obtain ⟨q, hq⟩ : ∃ q, zv y lb = q := ⟨_, rfl⟩
  rw [hq] at hz1
  have zq := hz1.2.1
  have lzq_ : Hid (Lz 200 q) := hz1.2.2
  have kzq_ : Hid (Lz 1024 q) := lzq_.out.mono (by omega)
  rw [hq] at hq0
  have HQ0 : Hid (q ≠ 0) := hq0
  have HDM : Hid (DMod p q (qz p q) (rz p q)) := dmod_qr p q hq0
  obtain ⟨Q, hQ⟩ : ∃ Q, qz p q = Q := ⟨_, rfl⟩
  obtain ⟨R, hRR⟩ : ∃ R, rz p q = R := ⟨_, rfl⟩
  rw [hQ, hRR] at HDM
  have HQR : Hid (qz p q = Q ∧ rz p q = R) := ⟨hQ, hRR⟩
  have HLQ1 : Hid (Lz 201 Q) := by show Lz _ _; rw [← hQ]; exact lz_more lzp_.out (qz_abs p q)
  have HLQ : Hid (Lz 1024 Q) := by show Lz _ _; rw [← hQ]; exact (lz_more lzp_.out (qz_abs p q)).mono (by omega)
  have HLR2 : Hid (Lz 200 R) := lz_iff.2 (by have := lz_iff.1 lzq_.out; have := HDM.out.2; omega)
  have HLR : Hid (Lz 1024 R) := HLR2.out.mono (by omega)
  rw [hq] at HSQ
  clear hq0 hQ hRR sa sb hna hnb hu hu0 hu1 hz0 hz1 hp hq hlb
  have HDV : Hid (∀ w va vb, WhZ w va p → WhZ w vb q → Calls Try.prog 29 #[va, vb] w fun e w' => ∃ vq vr, e = .returned (.tuple #[vq, vr, .int .i64 0]) ∧ WhZ w' vq Q ∧ WhZ w' vr R ∧ Below w.heap.size w w') := fun w va vb h1 h2 => by
    have := divmod_zz h1 h2 kzp_.out kzq_.out HQ0.out
    rw [HQR.out.1, HQR.out.2] at this
    exact this
  have c0b0 := (b0.cell 0).trans (b := some (Value.bool x)) rfl
  have c1b0 := (b0.cell 1).trans (b := some (Value.slice A na ca)) rfl
  have c0b1 := (b1.cell 0).trans (b := some (Value.bool y)) rfl
  have c1b1 := (b1.cell 1).trans (b := some (Value.slice B nb cb)) rfl
  go_wp2_with fail
  refine (HDV.out _ _ _ zp zq).mono ?_
  rintro e u3 ⟨vQ, vR, rfl, zQ, zR, h3⟩
  clear c0b0 c1b0 c0b1 c1b1
  have ch4 := ch3.trans (h3.mono ch3.size)
  replace b0 := b0.below h3 b0.lt
  replace b1 := b1.below h3 b1.lt
  replace zp := zp.below h3
  replace zq := zq.below h3
  obtain ⟨nQ, QA, cQ, HnQ, rfl, hsQ⟩ := whz_len zQ
  obtain ⟨nR, RA, cR, HnR, rfl, hsR⟩ := whz_len zR
  clear hsQ hsR
  obtain ⟨rs, hrs⟩ : ∃ rs, decide (R < 0) = rs := ⟨_, rfl⟩
  obtain ⟨qs, hqs⟩ : ∃ qs, decide (Q < 0) = qs := ⟨_, rfl⟩
  rw [hrs] at zR ⊢
  rw [hqs] at zQ ⊢
  have HRS : Hid (decide (R < 0) = rs) := hrs
  clear hqs hrs
  have a4v : Below u3.heap.size u3 ((u3.alloc (.cells #[.bool qs, .slice QA nQ cQ] 26)).alloc (.cells #[.bool rs, .slice RA nR cR] 26)) := ((Below.refl _ _).alloc (Nat.le_refl _) _).alloc (by simp) _
  have b4 : Blk ((u3.alloc (.cells #[.bool qs, .slice QA nQ cQ] 26)).alloc (.cells #[.bool rs, .slice RA nR cR] 26)) u3.heap.size 26 #[.bool qs, .slice QA nQ cQ] := (Blk.new _ _ _).alloc _
  have b5 : Blk ((u3.alloc (.cells #[.bool qs, .slice QA nQ cQ] 26)).alloc (.cells #[.bool rs, .slice RA nR cR] 26)) (u3.heap.size + 1) 26 #[.bool rs, .slice RA nR cR] := by
    have := Blk.new (u3.alloc (.cells #[.bool qs, .slice QA nQ cQ] 26)) 26 #[.bool rs, .slice RA nR cR]
    rwa [World.size_alloc] at this
  have ch5 := ch4.trans (a4v.mono ch4.size)
  replace b0 := b0.below a4v b0.lt
  replace b1 := b1.below a4v b1.lt
  replace zp := zp.below a4v
  replace zq := zq.below a4v
  replace zQ := zQ.below a4v
  replace zR := zR.below a4v
  have c0b0 := (b0.cell 0).trans (b := some (Value.bool x)) rfl
  have c1b0 := (b0.cell 1).trans (b := some (Value.slice A na ca)) rfl
  have c0b1 := (b1.cell 0).trans (b := some (Value.bool y)) rfl
  have c1b1 := (b1.cell 1).trans (b := some (Value.slice B nb cb)) rfl
  have c0b4 := (b4.cell 0).trans (b := some (Value.bool qs)) rfl
  have c1b4 := (b4.cell 1).trans (b := some (Value.slice QA nQ cQ)) rfl
  have c0b5 := (b5.cell 0).trans (b := some (Value.bool rs)) rfl
  have c1b5 := (b5.cell 1).trans (b := some (Value.slice RA nR cR)) rfl
  go_upto_region 8 with fail
  have HCH : Hid (Below w.heap.size w ((u3.alloc (.cells #[.bool qs, .slice QA nQ cQ] 26)).alloc (.cells #[.bool rs, .slice RA nR cR] 26))) := ch5
  go_cut [8, 9] from 43 to 48 (fun s8 s9 wx => TwoNew ((u3.alloc (.cells #[.bool qs, .slice QA nQ cQ] 26)).alloc (.cells #[.bool rs, .slice RA nR cR] 26)) wx s8 s9 #[.bool false, .slice B nb cb] #[.bool false, .slice RA nR cR])
  case first =>
    clear zp zq zQ zR ch5
    go_region_held3 (fun w' => w'.cell? ⟨w.heap.size, 0, none⟩ = some (.bool x) ∧ w'.cell? ⟨w.heap.size, 1, none⟩ = some (.slice A na ca) ∧ w'.cell? ⟨(w.heap.size + 1), 0, none⟩ = some (.bool y) ∧ w'.cell? ⟨(w.heap.size + 1), 1, none⟩ = some (.slice B nb cb) ∧ w'.cell? ⟨u3.heap.size, 0, none⟩ = some (.bool qs) ∧ w'.cell? ⟨u3.heap.size, 1, none⟩ = some (.slice QA nQ cQ) ∧ w'.cell? ⟨(u3.heap.size + 1), 0, none⟩ = some (.bool rs) ∧ w'.cell? ⟨(u3.heap.size + 1), 1, none⟩ = some (.slice RA nR cR)) (go_keep) (fail)
    all_goals
      go_wp2
      go_meet
      first | (have h := twoNew_a ((u3.alloc (.cells #[.bool qs, .slice QA nQ cQ] 26)).alloc (.cells #[.bool rs, .slice RA nR cR] 26)) #[.bool false, .slice B nb cb] #[.bool false, .slice RA nR cR]; simp only [World.size_alloc] at h; exact h) | (have h := twoNew_b ((u3.alloc (.cells #[.bool qs, .slice QA nQ cQ] 26)).alloc (.cells #[.bool rs, .slice RA nR cR] 26)) #[.bool false, .slice B nb cb] #[.bool false, .slice RA nR cR]; simp only [World.size_alloc] at h; exact h)
  case rest =>
    clear c0b0 c1b0 c0b1 c1b1 c0b4 c1b4 c0b5 c1b5
    obtain ⟨g8, g9, rfl, rfl, hg8, hg9, hg89, b8, b9, hcb⟩ := hcut
    have ch6 := ch5.trans (hcb.mono ch5.size)
    replace b0 := b0.below hcb b0.lt
    replace b1 := b1.below hcb b1.lt
    replace b4 := b4.below hcb b4.lt
    replace b5 := b5.below hcb b5.lt
    replace zp := zp.below hcb
    replace zq := zq.below hcb
    replace zQ := zQ.below hcb
    replace zR := zR.below hcb
    clear HCH
    have zS := whz_flip zq (z' := (q.natAbs : Int)) (b' := false) (by simp) (by simp)
    have zT := whz_flip zR (z' := (R.natAbs : Int)) (b' := false) (by simp) (by simp)
    have kQ_ : Hid (Lz 1024 Q) := HLQ.out
    have kR_ : Hid (Lz 1024 R) := HLR.out
    have kP_ : Hid (Lz 1024 (Q * q)) := by have e : Q * q = p - R := (by have := HDM.out.1; omega); show Lz _ _; rw [e]; exact (lzp_.out.sub HLR2.out).mono (by omega)
    have kA_ : Hid (Lz 1024 (Q * q + R)) := by have e : Q * q + R = p := HDM.out.1; show Lz _ _; rw [e]; exact kzp_.out
    have kS_ : Hid (Lz 1024 (q.natAbs : Int)) := by show Lz _ _; unfold Lz; rw [Int.natAbs_natCast]; exact kzq_.out
    have kT_ : Hid (Lz 1024 (R.natAbs : Int)) := by show Lz _ _; unfold Lz; rw [Int.natAbs_natCast]; exact HLR.out
    have HCM : Hid (cmpZ (R.natAbs : Int) (q.natAbs : Int) = -1) := cmpZ_lt (by have := HDM.out.2; omega)
    have ew2 : IntKind.i64.wrap (-1) = -1 := by decide
    have c0b0 := (b0.cell 0).trans (b := some (Value.bool x)) rfl
    have c1b0 := (b0.cell 1).trans (b := some (Value.slice A na ca)) rfl
    have c0b1 := (b1.cell 0).trans (b := some (Value.bool y)) rfl
    have c1b1 := (b1.cell 1).trans (b := some (Value.slice B nb cb)) rfl
    have c0b4 := (b4.cell 0).trans (b := some (Value.bool qs)) rfl
    have c1b4 := (b4.cell 1).trans (b := some (Value.slice QA nQ cQ)) rfl
    have c0b5 := (b5.cell 0).trans (b := some (Value.bool rs)) rfl
    have c1b5 := (b5.cell 1).trans (b := some (Value.slice RA nR cR)) rfl
    have c0b8 := (b8.cell 0).trans (b := some (Value.bool false)) rfl
    have c1b8 := (b8.cell 1).trans (b := some (Value.slice B nb cb)) rfl
    have c0b9 := (b9.cell 0).trans (b := some (Value.bool false)) rfl
    have c1b9 := (b9.cell 1).trans (b := some (Value.slice RA nR cR)) rfl
    go_upto_region 9 with fail
    clear c0b0 c1b0 c0b1 c1b1 c0b4 c1b4 c0b5 c1b5 c0b8 c1b8 c0b9 c1b9
    go_cut [79] from 49 to 79 (fun c wx => c = .bool false ∧ Below wc.heap.size wc wx)
    case first =>
      have hq9 : Below wc.heap.size wc wc := Below.refl _ _
      clear ch6
      cases y with
      | false =>
        by_cases hR0 : R = 0
        · have HR0 : Hid (R = 0) := hR0
          clear hR0
          have hrs : rs = false := by have h0 := HRS.out; have h1 := HDM.out.2; have h2 := HR0.out; have h3 := HSQ.out; rw [← h0]; simp at h3 ⊢; omega
          subst hrs
          obtain rfl : nR = 0 := by have := HnR.out; have e : R = 0 := HR0.out; rw [e] at this; simp [digs_zero] at this; omega
          replace b0 := b0.drew
          replace b1 := b1.drew
          replace b4 := b4.drew
          replace b5 := b5.drew
          replace b8 := b8.drew
          replace b9 := b9.drew
          replace zp := whz_drew zp
          replace zq := whz_drew zq
          replace zQ := whz_drew zQ
          replace zR := whz_drew zR
          replace zS := whz_drew zS
          replace zT := whz_drew zT
          have ch_5_0 := hq9.drew
          clear hq9
          have kk_5_0 := cellsD12 b0 b1 b4 b5 b8 b9
          refine wp_region_held_drew (S := fun w' => w'.cell? ⟨w.heap.size, 0, none⟩ = some (.bool x) ∧ w'.cell? ⟨w.heap.size, 1, none⟩ = some (.slice A na ca) ∧ w'.cell? ⟨(w.heap.size + 1), 0, none⟩ = some (.bool false) ∧ w'.cell? ⟨(w.heap.size + 1), 1, none⟩ = some (.slice B nb cb) ∧ w'.cell? ⟨u3.heap.size, 0, none⟩ = some (.bool qs) ∧ w'.cell? ⟨u3.heap.size, 1, none⟩ = some (.slice QA nQ cQ) ∧ w'.cell? ⟨(u3.heap.size + 1), 0, none⟩ = some (.bool false) ∧ w'.cell? ⟨(u3.heap.size + 1), 1, none⟩ = some (.slice RA 0 cR) ∧ w'.cell? ⟨g8, 0, none⟩ = some (.bool false) ∧ w'.cell? ⟨g8, 1, none⟩ = some (.slice B nb cb) ∧ w'.cell? ⟨g9, 0, none⟩ = some (.bool false) ∧ w'.cell? ⟨g9, 1, none⟩ = some (.slice RA 0 cR)) (by kernel_rfl) kk_5_0 (fun hH => ?_)
          clear kk_5_0
          refine wpAnyH_take (i := 0) (v := ?_) rfl (by kernel_rfl) (by kernel_rfl) (by kernel_rfl) (fun _ _ _ h => h) (Or.inl ⟨by rfl, ?_⟩) (by assumption) ?_
          rotate_left
          · intro w' hSw
            (try dsimp only at hSw)
            obtain ⟨q0, q1, q2, q3, q4, q5, q6, q7, q8, q9, q10, q11⟩ := hSw
            go_simp
            try with_reducible rfl
          (try simp only [List.getElem_toArray, List.getElem_cons_zero, List.getElem_cons_succ, Act.put, List.setIfInBounds_toArray, List.set_cons_zero, List.set_cons_succ])
          refine wpAnyH_take (i := 1) (v := ?_) rfl (by kernel_rfl) (by kernel_rfl) (by kernel_rfl) (fun _ _ _ h => h) (Or.inl ⟨by rfl, ?_⟩) (by assumption) ?_
          rotate_left
          · intro w' hSw
            (try dsimp only at hSw)
            obtain ⟨q0, q1, q2, q3, q4, q5, q6, q7, q8, q9, q10, q11⟩ := hSw
            go_simp
            try with_reducible rfl
          (try simp only [List.getElem_toArray, List.getElem_cons_zero, List.getElem_cons_succ, Act.put, List.setIfInBounds_toArray, List.set_cons_zero, List.set_cons_succ])
          refine wpAnyH_take (i := 2) (v := ?_) rfl (by kernel_rfl) (by kernel_rfl) (by kernel_rfl) (fun _ _ _ h => h) (Or.inl ⟨by rfl, ?_⟩) (by assumption) ?_
          rotate_left
          · intro w' hSw
            (try dsimp only at hSw)
            obtain ⟨q0, q1, q2, q3, q4, q5, q6, q7, q8, q9, q10, q11⟩ := hSw
            go_simp
            try with_reducible rfl
          (try simp only [List.getElem_toArray, List.getElem_cons_zero, List.getElem_cons_succ, Act.put, List.setIfInBounds_toArray, List.set_cons_zero, List.set_cons_succ])
          refine wpAnyH_take (i := 3) (v := ?_) rfl (by kernel_rfl) (by kernel_rfl) (by kernel_rfl) (fun _ _ _ h => h) (Or.inl ⟨by rfl, ?_⟩) (by assumption) ?_
          rotate_left
          · intro w' hSw
            (try dsimp only at hSw)
            obtain ⟨q0, q1, q2, q3, q4, q5, q6, q7, q8, q9, q10, q11⟩ := hSw
            go_simp
            try with_reducible rfl
          (try simp only [List.getElem_toArray, List.getElem_cons_zero, List.getElem_cons_succ, Act.put, List.setIfInBounds_toArray, List.set_cons_zero, List.set_cons_succ])
          refine wpAnyH_take (i := 4) (v := ?_) rfl (by kernel_rfl) (by kernel_rfl) (by kernel_rfl) (fun _ _ _ h => h) (Or.inl ⟨by rfl, ?_⟩) (by assumption) ?_
          rotate_left
          · intro w' hSw
            (try dsimp only at hSw)
            obtain ⟨q0, q1, q2, q3, q4, q5, q6, q7, q8, q9, q10, q11⟩ := hSw
            go_simp
            try with_reducible rfl
          (try simp only [List.getElem_toArray, List.getElem_cons_zero, List.getElem_cons_succ, Act.put, List.setIfInBounds_toArray, List.set_cons_zero, List.set_cons_succ])
          refine wpAnyH_take (i := 6) (v := ?_) rfl (by kernel_rfl) (by kernel_rfl) (by kernel_rfl) (fun _ _ _ h => h) (Or.inl ⟨by rfl, ?_⟩) (by assumption) ?_
          rotate_left
          · intro w' hSw
            (try dsimp only at hSw)
            obtain ⟨q0, q1, q2, q3, q4, q5, q6, q7, q8, q9, q10, q11⟩ := hSw
            go_simp
            try with_reducible rfl
          (try simp only [List.getElem_toArray, List.getElem_cons_zero, List.getElem_cons_succ, Act.put, List.setIfInBounds_toArray, List.set_cons_zero, List.set_cons_succ])
          refine wpAnyH_take (i := 8) (v := ?_) rfl (by kernel_rfl) (by kernel_rfl) (by kernel_rfl) (fun _ _ _ h => h) (Or.inl ⟨by rfl, ?_⟩) (by assumption) ?_
          rotate_left
          · intro w' hSw
            (try dsimp only at hSw)
            obtain ⟨q0, q1, q2, q3, q4, q5, q6, q7, q8, q9, q10, q11⟩ := hSw
            go_simp
            try with_reducible rfl
          (try simp only [List.getElem_toArray, List.getElem_cons_zero, List.getElem_cons_succ, Act.put, List.setIfInBounds_toArray, List.set_cons_zero, List.set_cons_succ])
          refine wpAnyH_ready (rs := [5]) (by kernel_rfl) (by simp) ?_
          refine AllReadyH.cons rfl (fun K hK => ?_) AllReadyH.nil
          go_simp
          refine (prodv zQ zq kQ_.out kzq_.out kP_.out).mono ?_
          rintro e w_5_1 ⟨vzP, rfl, zP, hb_5_1⟩
          replace b0 := b0.below hb_5_1 b0.lt
          replace b1 := b1.below hb_5_1 b1.lt
          replace b4 := b4.below hb_5_1 b4.lt
          replace b5 := b5.below hb_5_1 b5.lt
          replace b8 := b8.below hb_5_1 b8.lt
          replace b9 := b9.below hb_5_1 b9.lt
          replace zp := zp.below hb_5_1
          replace zq := zq.below hb_5_1
          replace zQ := zQ.below hb_5_1
          replace zR := zR.below hb_5_1
          replace zS := zS.below hb_5_1
          replace zT := zT.below hb_5_1
          have ch_5_1 := ch_5_0.trans (hb_5_1.mono ch_5_0.size)
          refine hK.out _ _ (cellsD12 b0 b1 b4 b5 b8 b9) (fun hH1 => ?_)
          clear hK K ch_5_0 hb_5_1 hH
          have hH := hH1
          clear hH1
          (try simp only [List.getElem_toArray, List.getElem_cons_zero, List.getElem_cons_succ, Act.put, List.setIfInBounds_toArray, List.set_cons_zero, List.set_cons_succ])
          refine wpAnyH_ready (rs := [7]) (by kernel_rfl) (by simp) ?_
          refine AllReadyH.cons rfl (fun K hK => ?_) AllReadyH.nil
          go_simp
          refine (sumv zP zR kP_.out kR_.out kA_.out).mono ?_
          rintro e w_5_2 ⟨vzA, rfl, zA, hb_5_2⟩
          replace b0 := b0.below hb_5_2 b0.lt
          replace b1 := b1.below hb_5_2 b1.lt
          replace b4 := b4.below hb_5_2 b4.lt
          replace b5 := b5.below hb_5_2 b5.lt
          replace b8 := b8.below hb_5_2 b8.lt
          replace b9 := b9.below hb_5_2 b9.lt
          replace zp := zp.below hb_5_2
          replace zq := zq.below hb_5_2
          replace zQ := zQ.below hb_5_2
          replace zR := zR.below hb_5_2
          replace zS := zS.below hb_5_2
          replace zT := zT.below hb_5_2
          clear zP
          have ch_5_2 := ch_5_1.trans (hb_5_2.mono ch_5_1.size)
          refine hK.out _ _ (cellsD12 b0 b1 b4 b5 b8 b9) (fun hH2 => ?_)
          clear hK K ch_5_1 hb_5_2 hH
          have hH := hH2
          clear hH2
          (try simp only [List.getElem_toArray, List.getElem_cons_zero, List.getElem_cons_succ, Act.put, List.setIfInBounds_toArray, List.set_cons_zero, List.set_cons_succ])
          refine wpAnyH_ready (rs := [9]) (by kernel_rfl) (by simp) ?_
          refine AllReadyH.cons rfl (fun K hK => ?_) AllReadyH.nil
          go_simp
          refine (equal_l zA zp kA_.out kzp_.out HDM.out.1).mono ?_
          rintro e w_5_3 ⟨rfl, hb_5_3⟩
          replace b0 := b0.below hb_5_3 b0.lt
          replace b1 := b1.below hb_5_3 b1.lt
          replace b4 := b4.below hb_5_3 b4.lt
          replace b5 := b5.below hb_5_3 b5.lt
          replace b8 := b8.below hb_5_3 b8.lt
          replace b9 := b9.below hb_5_3 b9.lt
          replace zp := zp.below hb_5_3
          replace zq := zq.below hb_5_3
          replace zQ := zQ.below hb_5_3
          replace zR := zR.below hb_5_3
          replace zS := zS.below hb_5_3
          replace zT := zT.below hb_5_3
          clear zA
          have ch_5_3 := ch_5_2.trans (hb_5_3.mono ch_5_2.size)
          refine hK.out _ _ (cellsD12 b0 b1 b4 b5 b8 b9) (fun hH3 => ?_)
          clear hK K ch_5_2 hb_5_3 hH
          have hH := hH3
          clear hH3
          (try simp only [List.getElem_toArray, List.getElem_cons_zero, List.getElem_cons_succ, Act.put, List.setIfInBounds_toArray, List.set_cons_zero, List.set_cons_succ])
          refine wpAnyH_take (i := 10) (v := ?_) rfl (by kernel_rfl) (by kernel_rfl) (by kernel_rfl) (fun _ _ _ h => h) (Or.inl ⟨by rfl, ?_⟩) (by assumption) ?_
          rotate_left
          · intro w' hSw
            (try dsimp only at hSw)
            obtain ⟨q0, q1, q2, q3, q4, q5, q6, q7, q8, q9, q10, q11⟩ := hSw
            go_simp
            try with_reducible rfl
          (try simp only [List.getElem_toArray, List.getElem_cons_zero, List.getElem_cons_succ, Act.put, List.setIfInBounds_toArray, List.set_cons_zero, List.set_cons_succ])
          refine wpAnyH_take (i := 11) (v := ?_) rfl (by kernel_rfl) (by kernel_rfl) (by kernel_rfl) (fun _ _ _ h => h) (Or.inl ⟨by rfl, ?_⟩) (by assumption) ?_
          rotate_left
          · intro w' hSw
            (try dsimp only at hSw)
            obtain ⟨q0, q1, q2, q3, q4, q5, q6, q7, q8, q9, q10, q11⟩ := hSw
            go_simp
            try with_reducible rfl
          (try simp only [List.getElem_toArray, List.getElem_cons_zero, List.getElem_cons_succ, Act.put, List.setIfInBounds_toArray, List.set_cons_zero, List.set_cons_succ])
          refine wpAnyH_take (i := 12) (v := ?_) rfl (by kernel_rfl) (by kernel_rfl) (by kernel_rfl) (fun _ _ _ h => h) (Or.inl ⟨by rfl, ?_⟩) (by assumption) ?_
          rotate_left
          · intro w' hSw
            (try dsimp only at hSw)
            obtain ⟨q0, q1, q2, q3, q4, q5, q6, q7, q8, q9, q10, q11⟩ := hSw
            go_simp
            try with_reducible rfl
          (try simp only [List.getElem_toArray, List.getElem_cons_zero, List.getElem_cons_succ, Act.put, List.setIfInBounds_toArray, List.set_cons_zero, List.set_cons_succ])
          refine wpAnyH_take (i := 13) (v := ?_) rfl (by kernel_rfl) (by kernel_rfl) (by kernel_rfl) (fun _ _ _ h => h) (Or.inl ⟨by rfl, ?_⟩) (by assumption) ?_
          rotate_left
          · intro w' hSw
            (try dsimp only at hSw)
            obtain ⟨q0, q1, q2, q3, q4, q5, q6, q7, q8, q9, q10, q11⟩ := hSw
            go_simp
            try with_reducible rfl
          (try simp only [List.getElem_toArray, List.getElem_cons_zero, List.getElem_cons_succ, Act.put, List.setIfInBounds_toArray, List.set_cons_zero, List.set_cons_succ])
          refine wpAnyH_take (i := 14) (v := ?_) rfl (by kernel_rfl) (by kernel_rfl) (by kernel_rfl) (fun _ _ _ h => h) (Or.inl ⟨by rfl, ?_⟩) (by assumption) ?_
          rotate_left
          · intro w' hSw
            (try dsimp only at hSw)
            obtain ⟨q0, q1, q2, q3, q4, q5, q6, q7, q8, q9, q10, q11⟩ := hSw
            go_simp
            try with_reducible rfl
          (try simp only [List.getElem_toArray, List.getElem_cons_zero, List.getElem_cons_succ, Act.put, List.setIfInBounds_toArray, List.set_cons_zero, List.set_cons_succ])
          refine wpAnyH_take (i := 15) (v := ?_) rfl (by kernel_rfl) (by kernel_rfl) (by kernel_rfl) (fun _ _ _ h => h) (Or.inl ⟨by rfl, ?_⟩) (by assumption) ?_
          rotate_left
          · intro w' hSw
            (try dsimp only at hSw)
            obtain ⟨q0, q1, q2, q3, q4, q5, q6, q7, q8, q9, q10, q11⟩ := hSw
            go_simp
            try with_reducible rfl
          (try simp only [List.getElem_toArray, List.getElem_cons_zero, List.getElem_cons_succ, Act.put, List.setIfInBounds_toArray, List.set_cons_zero, List.set_cons_succ])
          refine wpAnyH_take (i := 16) (v := ?_) rfl (by kernel_rfl) (by kernel_rfl) (by kernel_rfl) (fun _ _ _ h => h) (Or.inl ⟨by rfl, ?_⟩) (by assumption) ?_
          rotate_left
          · intro w' hSw
            (try dsimp only at hSw)
            obtain ⟨q0, q1, q2, q3, q4, q5, q6, q7, q8, q9, q10, q11⟩ := hSw
            go_simp
            try with_reducible rfl
          (try simp only [List.getElem_toArray, List.getElem_cons_zero, List.getElem_cons_succ, Act.put, List.setIfInBounds_toArray, List.set_cons_zero, List.set_cons_succ])
          refine wpAnyH_take (i := 17) (v := ?_) rfl (by kernel_rfl) (by kernel_rfl) (by kernel_rfl) (fun _ _ _ h => h) (Or.inl ⟨by rfl, ?_⟩) (by assumption) ?_
          rotate_left
          · intro w' hSw
            (try dsimp only at hSw)
            obtain ⟨q0, q1, q2, q3, q4, q5, q6, q7, q8, q9, q10, q11⟩ := hSw
            go_simp
            try with_reducible rfl
          (try simp only [List.getElem_toArray, List.getElem_cons_zero, List.getElem_cons_succ, Act.put, List.setIfInBounds_toArray, List.set_cons_zero, List.set_cons_succ])
          refine wpAnyH_take (i := 18) (v := undef) rfl (by kernel_rfl) (by kernel_rfl) (by kernel_rfl) (fun _ _ _ h => h) (Or.inr ⟨by rfl, rfl⟩) (by assumption) ?_
          (try simp only [List.getElem_toArray, List.getElem_cons_zero, List.getElem_cons_succ, Act.put, List.setIfInBounds_toArray, List.set_cons_zero, List.set_cons_succ])
          refine wpAnyH_take (i := 19) (v := undef) rfl (by kernel_rfl) (by kernel_rfl) (by kernel_rfl) (fun _ _ _ h => h) (Or.inr ⟨by rfl, rfl⟩) (by assumption) ?_
          (try simp only [List.getElem_toArray, List.getElem_cons_zero, List.getElem_cons_succ, Act.put, List.setIfInBounds_toArray, List.set_cons_zero, List.set_cons_succ])
          refine wpAnyH_take (i := 20) (v := undef) rfl (by kernel_rfl) (by kernel_rfl) (by kernel_rfl) (fun _ _ _ h => h) (Or.inr ⟨by rfl, rfl⟩) (by assumption) ?_
          (try simp only [List.getElem_toArray, List.getElem_cons_zero, List.getElem_cons_succ, Act.put, List.setIfInBounds_toArray, List.set_cons_zero, List.set_cons_succ])
          refine wpAnyH_take (i := 21) (v := undef) rfl (by kernel_rfl) (by kernel_rfl) (by kernel_rfl) (fun _ _ _ h => h) (Or.inr ⟨by rfl, rfl⟩) (by assumption) ?_
          (try simp only [List.getElem_toArray, List.getElem_cons_zero, List.getElem_cons_succ, Act.put, List.setIfInBounds_toArray, List.set_cons_zero, List.set_cons_succ])
          refine wpAnyH_take (i := 22) (v := ?_) rfl (by kernel_rfl) (by kernel_rfl) (by kernel_rfl) (fun _ _ _ h => h) (Or.inl ⟨by rfl, ?_⟩) (by assumption) ?_
          rotate_left
          · intro w' hSw
            (try dsimp only at hSw)
            obtain ⟨q0, q1, q2, q3, q4, q5, q6, q7, q8, q9, q10, q11⟩ := hSw
            go_simp
            try with_reducible rfl
          (try simp only [List.getElem_toArray, List.getElem_cons_zero, List.getElem_cons_succ, Act.put, List.setIfInBounds_toArray, List.set_cons_zero, List.set_cons_succ])
          refine wpAnyH_take (i := 23) (v := ?_) rfl (by kernel_rfl) (by kernel_rfl) (by kernel_rfl) (fun _ _ _ h => h) (Or.inl ⟨by rfl, ?_⟩) (by assumption) ?_
          rotate_left
          · intro w' hSw
            (try dsimp only at hSw)
            obtain ⟨q0, q1, q2, q3, q4, q5, q6, q7, q8, q9, q10, q11⟩ := hSw
            go_simp
            try with_reducible rfl
          (try simp only [List.getElem_toArray, List.getElem_cons_zero, List.getElem_cons_succ, Act.put, List.setIfInBounds_toArray, List.set_cons_zero, List.set_cons_succ])
          refine wpAnyH_take (i := 24) (v := ?_) rfl (by kernel_rfl) (by kernel_rfl) (by kernel_rfl) (fun _ _ _ h => h) (Or.inl ⟨by rfl, ?_⟩) (by assumption) ?_
          rotate_left
          · intro w' hSw
            (try dsimp only at hSw)
            obtain ⟨q0, q1, q2, q3, q4, q5, q6, q7, q8, q9, q10, q11⟩ := hSw
            go_simp
            try with_reducible rfl
          (try simp only [List.getElem_toArray, List.getElem_cons_zero, List.getElem_cons_succ, Act.put, List.setIfInBounds_toArray, List.set_cons_zero, List.set_cons_succ])
          refine wpAnyH_take (i := 25) (v := ?_) rfl (by kernel_rfl) (by kernel_rfl) (by kernel_rfl) (fun _ _ _ h => h) (Or.inl ⟨by rfl, ?_⟩) (by assumption) ?_
          rotate_left
          · intro w' hSw
            (try dsimp only at hSw)
            obtain ⟨q0, q1, q2, q3, q4, q5, q6, q7, q8, q9, q10, q11⟩ := hSw
            go_simp
            try with_reducible rfl
          (try simp only [List.getElem_toArray, List.getElem_cons_zero, List.getElem_cons_succ, Act.put, List.setIfInBounds_toArray, List.set_cons_zero, List.set_cons_succ])
          refine wpAnyH_take (i := 26) (v := ?_) rfl (by kernel_rfl) (by kernel_rfl) (by kernel_rfl) (fun _ _ _ h => h) (Or.inl ⟨by rfl, ?_⟩) (by assumption) ?_
          rotate_left
          · intro w' hSw
            (try dsimp only at hSw)
            obtain ⟨q0, q1, q2, q3, q4, q5, q6, q7, q8, q9, q10, q11⟩ := hSw
            go_simp
            try with_reducible rfl
          (try simp only [List.getElem_toArray, List.getElem_cons_zero, List.getElem_cons_succ, Act.put, List.setIfInBounds_toArray, List.set_cons_zero, List.set_cons_succ])
          refine wpAnyH_take (i := 27) (v := ?_) rfl (by kernel_rfl) (by kernel_rfl) (by kernel_rfl) (fun _ _ _ h => h) (Or.inl ⟨by rfl, ?_⟩) (by assumption) ?_
          rotate_left
          · intro w' hSw
            (try dsimp only at hSw)
            obtain ⟨q0, q1, q2, q3, q4, q5, q6, q7, q8, q9, q10, q11⟩ := hSw
            go_simp
            try with_reducible rfl
          (try simp only [List.getElem_toArray, List.getElem_cons_zero, List.getElem_cons_succ, Act.put, List.setIfInBounds_toArray, List.set_cons_zero, List.set_cons_succ])
          refine wpAnyH_ready (rs := [28]) (by kernel_rfl) (by simp) ?_
          refine AllReadyH.cons rfl (fun K hK => ?_) AllReadyH.nil
          go_simp
          refine (cmp_l zT zS kT_.out kS_.out HCM.out).mono ?_
          rintro e w_5_4 ⟨rfl, hb_5_4⟩
          replace b0 := b0.below hb_5_4 b0.lt
          replace b1 := b1.below hb_5_4 b1.lt
          replace b4 := b4.below hb_5_4 b4.lt
          replace b5 := b5.below hb_5_4 b5.lt
          replace b8 := b8.below hb_5_4 b8.lt
          replace b9 := b9.below hb_5_4 b9.lt
          replace zp := zp.below hb_5_4
          replace zq := zq.below hb_5_4
          replace zQ := zQ.below hb_5_4
          replace zR := zR.below hb_5_4
          replace zS := zS.below hb_5_4
          replace zT := zT.below hb_5_4
          have ch_5_4 := ch_5_3.trans (hb_5_4.mono ch_5_3.size)
          refine hK.out _ _ (cellsD12 b0 b1 b4 b5 b8 b9) (fun hH4 => ?_)
          clear hK K ch_5_3 hb_5_4 hH
          have hH := hH4
          clear hH4
          (try simp only [List.getElem_toArray, List.getElem_cons_zero, List.getElem_cons_succ, Act.put, List.setIfInBounds_toArray, List.set_cons_zero, List.set_cons_succ])
          refine wpAnyH_take (i := 29) (v := ?_) rfl (by kernel_rfl) (by kernel_rfl) (by kernel_rfl) (fun _ _ _ h => h) (Or.inl ⟨by rfl, ?_⟩) (by assumption) ?_
          rotate_left
          · intro w' hSw
            (try dsimp only at hSw)
            obtain ⟨q0, q1, q2, q3, q4, q5, q6, q7, q8, q9, q10, q11⟩ := hSw
            go_simp
            try with_reducible rfl
          (try simp only [List.getElem_toArray, List.getElem_cons_zero, List.getElem_cons_succ, Act.put, List.setIfInBounds_toArray, List.set_cons_zero, List.set_cons_succ])
          refine wpAnyH_take (i := 30) (v := ?_) rfl (by kernel_rfl) (by kernel_rfl) (by kernel_rfl) (fun _ _ _ h => h) (Or.inl ⟨by rfl, ?_⟩) (by assumption) ?_
          rotate_left
          · intro w' hSw
            (try dsimp only at hSw)
            obtain ⟨q0, q1, q2, q3, q4, q5, q6, q7, q8, q9, q10, q11⟩ := hSw
            go_simp
            try with_reducible rfl
          (try simp only [List.getElem_toArray, List.getElem_cons_zero, List.getElem_cons_succ, Act.put, List.setIfInBounds_toArray, List.set_cons_zero, List.set_cons_succ])
          refine wpAnyH_done (by kernel_rfl) ?_ _
          clear hH
          have ch7 := ch_5_4
          clear ch_5_4
          go_wp2
          go_meet
          exact ⟨rfl, ch7⟩
        · have HR0 : Hid (R ≠ 0) := hR0
          clear hR0
          have hrs : rs = false := by have h0 := HRS.out; have h1 := HDM.out.2; have h2 := HR0.out; have h3 := HSQ.out; rw [← h0]; simp at h3 ⊢; omega
          subst hrs
          have hnR0 : 0 < nR := by have := HnR.out; have := pos_digs (n := R.natAbs) (by have := HR0.out; omega); omega
          replace b0 := b0.drew
          replace b1 := b1.drew
          replace b4 := b4.drew
          replace b5 := b5.drew
          replace b8 := b8.drew
          replace b9 := b9.drew
          replace zp := whz_drew zp
          replace zq := whz_drew zq
          replace zQ := whz_drew zQ
          replace zR := whz_drew zR
          replace zS := whz_drew zS
          replace zT := whz_drew zT
          have ch_6_0 := hq9.drew
          clear hq9
          have kk_6_0 := cellsD12 b0 b1 b4 b5 b8 b9
          refine wp_region_held_drew (S := fun w' => w'.cell? ⟨w.heap.size, 0, none⟩ = some (.bool x) ∧ w'.cell? ⟨w.heap.size, 1, none⟩ = some (.slice A na ca) ∧ w'.cell? ⟨(w.heap.size + 1), 0, none⟩ = some (.bool false) ∧ w'.cell? ⟨(w.heap.size + 1), 1, none⟩ = some (.slice B nb cb) ∧ w'.cell? ⟨u3.heap.size, 0, none⟩ = some (.bool qs) ∧ w'.cell? ⟨u3.heap.size, 1, none⟩ = some (.slice QA nQ cQ) ∧ w'.cell? ⟨(u3.heap.size + 1), 0, none⟩ = some (.bool false) ∧ w'.cell? ⟨(u3.heap.size + 1), 1, none⟩ = some (.slice RA nR cR) ∧ w'.cell? ⟨g8, 0, none⟩ = some (.bool false) ∧ w'.cell? ⟨g8, 1, none⟩ = some (.slice B nb cb) ∧ w'.cell? ⟨g9, 0, none⟩ = some (.bool false) ∧ w'.cell? ⟨g9, 1, none⟩ = some (.slice RA nR cR)) (by kernel_rfl) kk_6_0 (fun hH => ?_)
          clear kk_6_0
          refine wpAnyH_take (i := 0) (v := ?_) rfl (by kernel_rfl) (by kernel_rfl) (by kernel_rfl) (fun _ _ _ h => h) (Or.inl ⟨by rfl, ?_⟩) (by assumption) ?_
          rotate_left
          · intro w' hSw
            (try dsimp only at hSw)
            obtain ⟨q0, q1, q2, q3, q4, q5, q6, q7, q8, q9, q10, q11⟩ := hSw
            go_simp
            try with_reducible rfl
          (try simp only [List.getElem_toArray, List.getElem_cons_zero, List.getElem_cons_succ, Act.put, List.setIfInBounds_toArray, List.set_cons_zero, List.set_cons_succ])
          refine wpAnyH_take (i := 1) (v := ?_) rfl (by kernel_rfl) (by kernel_rfl) (by kernel_rfl) (fun _ _ _ h => h) (Or.inl ⟨by rfl, ?_⟩) (by assumption) ?_
          rotate_left
          · intro w' hSw
            (try dsimp only at hSw)
            obtain ⟨q0, q1, q2, q3, q4, q5, q6, q7, q8, q9, q10, q11⟩ := hSw
            go_simp
            try with_reducible rfl
          (try simp only [List.getElem_toArray, List.getElem_cons_zero, List.getElem_cons_succ, Act.put, List.setIfInBounds_toArray, List.set_cons_zero, List.set_cons_succ])
          refine wpAnyH_take (i := 2) (v := ?_) rfl (by kernel_rfl) (by kernel_rfl) (by kernel_rfl) (fun _ _ _ h => h) (Or.inl ⟨by rfl, ?_⟩) (by assumption) ?_
          rotate_left
          · intro w' hSw
            (try dsimp only at hSw)
            obtain ⟨q0, q1, q2, q3, q4, q5, q6, q7, q8, q9, q10, q11⟩ := hSw
            go_simp
            try with_reducible rfl
          (try simp only [List.getElem_toArray, List.getElem_cons_zero, List.getElem_cons_succ, Act.put, List.setIfInBounds_toArray, List.set_cons_zero, List.set_cons_succ])
          refine wpAnyH_take (i := 3) (v := ?_) rfl (by kernel_rfl) (by kernel_rfl) (by kernel_rfl) (fun _ _ _ h => h) (Or.inl ⟨by rfl, ?_⟩) (by assumption) ?_
          rotate_left
          · intro w' hSw
            (try dsimp only at hSw)
            obtain ⟨q0, q1, q2, q3, q4, q5, q6, q7, q8, q9, q10, q11⟩ := hSw
            go_simp
            try with_reducible rfl
          (try simp only [List.getElem_toArray, List.getElem_cons_zero, List.getElem_cons_succ, Act.put, List.setIfInBounds_toArray, List.set_cons_zero, List.set_cons_succ])
          refine wpAnyH_take (i := 4) (v := ?_) rfl (by kernel_rfl) (by kernel_rfl) (by kernel_rfl) (fun _ _ _ h => h) (Or.inl ⟨by rfl, ?_⟩) (by assumption) ?_
          rotate_left
          · intro w' hSw
            (try dsimp only at hSw)
            obtain ⟨q0, q1, q2, q3, q4, q5, q6, q7, q8, q9, q10, q11⟩ := hSw
            go_simp
            try with_reducible rfl
          (try simp only [List.getElem_toArray, List.getElem_cons_zero, List.getElem_cons_succ, Act.put, List.setIfInBounds_toArray, List.set_cons_zero, List.set_cons_succ])
          refine wpAnyH_take (i := 6) (v := ?_) rfl (by kernel_rfl) (by kernel_rfl) (by kernel_rfl) (fun _ _ _ h => h) (Or.inl ⟨by rfl, ?_⟩) (by assumption) ?_
          rotate_left
          · intro w' hSw
            (try dsimp only at hSw)
            obtain ⟨q0, q1, q2, q3, q4, q5, q6, q7, q8, q9, q10, q11⟩ := hSw
            go_simp
            try with_reducible rfl
          (try simp only [List.getElem_toArray, List.getElem_cons_zero, List.getElem_cons_succ, Act.put, List.setIfInBounds_toArray, List.set_cons_zero, List.set_cons_succ])
          refine wpAnyH_take (i := 8) (v := ?_) rfl (by kernel_rfl) (by kernel_rfl) (by kernel_rfl) (fun _ _ _ h => h) (Or.inl ⟨by rfl, ?_⟩) (by assumption) ?_
          rotate_left
          · intro w' hSw
            (try dsimp only at hSw)
            obtain ⟨q0, q1, q2, q3, q4, q5, q6, q7, q8, q9, q10, q11⟩ := hSw
            go_simp
            try with_reducible rfl
          (try simp only [List.getElem_toArray, List.getElem_cons_zero, List.getElem_cons_succ, Act.put, List.setIfInBounds_toArray, List.set_cons_zero, List.set_cons_succ])
          refine wpAnyH_ready (rs := [5]) (by kernel_rfl) (by simp) ?_
          refine AllReadyH.cons rfl (fun K hK => ?_) AllReadyH.nil
          go_simp
          refine (prodv zQ zq kQ_.out kzq_.out kP_.out).mono ?_
          rintro e w_6_1 ⟨vzP, rfl, zP, hb_6_1⟩
          replace b0 := b0.below hb_6_1 b0.lt
          replace b1 := b1.below hb_6_1 b1.lt
          replace b4 := b4.below hb_6_1 b4.lt
          replace b5 := b5.below hb_6_1 b5.lt
          replace b8 := b8.below hb_6_1 b8.lt
          replace b9 := b9.below hb_6_1 b9.lt
          replace zp := zp.below hb_6_1
          replace zq := zq.below hb_6_1
          replace zQ := zQ.below hb_6_1
          replace zR := zR.below hb_6_1
          replace zS := zS.below hb_6_1
          replace zT := zT.below hb_6_1
          have ch_6_1 := ch_6_0.trans (hb_6_1.mono ch_6_0.size)
          refine hK.out _ _ (cellsD12 b0 b1 b4 b5 b8 b9) (fun hH1 => ?_)
          clear hK K ch_6_0 hb_6_1 hH
          have hH := hH1
          clear hH1
          (try simp only [List.getElem_toArray, List.getElem_cons_zero, List.getElem_cons_succ, Act.put, List.setIfInBounds_toArray, List.set_cons_zero, List.set_cons_succ])
          refine wpAnyH_ready (rs := [7]) (by kernel_rfl) (by simp) ?_
          refine AllReadyH.cons rfl (fun K hK => ?_) AllReadyH.nil
          go_simp
          refine (sumv zP zR kP_.out kR_.out kA_.out).mono ?_
          rintro e w_6_2 ⟨vzA, rfl, zA, hb_6_2⟩
          replace b0 := b0.below hb_6_2 b0.lt
          replace b1 := b1.below hb_6_2 b1.lt
          replace b4 := b4.below hb_6_2 b4.lt
          replace b5 := b5.below hb_6_2 b5.lt
          replace b8 := b8.below hb_6_2 b8.lt
          replace b9 := b9.below hb_6_2 b9.lt
          replace zp := zp.below hb_6_2
          replace zq := zq.below hb_6_2
          replace zQ := zQ.below hb_6_2
          replace zR := zR.below hb_6_2
          replace zS := zS.below hb_6_2
          replace zT := zT.below hb_6_2
          clear zP
          have ch_6_2 := ch_6_1.trans (hb_6_2.mono ch_6_1.size)
          refine hK.out _ _ (cellsD12 b0 b1 b4 b5 b8 b9) (fun hH2 => ?_)
          clear hK K ch_6_1 hb_6_2 hH
          have hH := hH2
          clear hH2
          (try simp only [List.getElem_toArray, List.getElem_cons_zero, List.getElem_cons_succ, Act.put, List.setIfInBounds_toArray, List.set_cons_zero, List.set_cons_succ])
          refine wpAnyH_ready (rs := [9]) (by kernel_rfl) (by simp) ?_
          refine AllReadyH.cons rfl (fun K hK => ?_) AllReadyH.nil
          go_simp
          refine (equal_l zA zp kA_.out kzp_.out HDM.out.1).mono ?_
          rintro e w_6_3 ⟨rfl, hb_6_3⟩
          replace b0 := b0.below hb_6_3 b0.lt
          replace b1 := b1.below hb_6_3 b1.lt
          replace b4 := b4.below hb_6_3 b4.lt
          replace b5 := b5.below hb_6_3 b5.lt
          replace b8 := b8.below hb_6_3 b8.lt
          replace b9 := b9.below hb_6_3 b9.lt
          replace zp := zp.below hb_6_3
          replace zq := zq.below hb_6_3
          replace zQ := zQ.below hb_6_3
          replace zR := zR.below hb_6_3
          replace zS := zS.below hb_6_3
          replace zT := zT.below hb_6_3
          clear zA
          have ch_6_3 := ch_6_2.trans (hb_6_3.mono ch_6_2.size)
          refine hK.out _ _ (cellsD12 b0 b1 b4 b5 b8 b9) (fun hH3 => ?_)
          clear hK K ch_6_2 hb_6_3 hH
          have hH := hH3
          clear hH3
          (try simp only [List.getElem_toArray, List.getElem_cons_zero, List.getElem_cons_succ, Act.put, List.setIfInBounds_toArray, List.set_cons_zero, List.set_cons_succ])
          refine wpAnyH_take (i := 10) (v := ?_) rfl (by kernel_rfl) (by kernel_rfl) (by kernel_rfl) (fun _ _ _ h => h) (Or.inl ⟨by rfl, ?_⟩) (by assumption) ?_
          rotate_left
          · intro w' hSw
            (try dsimp only at hSw)
            obtain ⟨q0, q1, q2, q3, q4, q5, q6, q7, q8, q9, q10, q11⟩ := hSw
            go_simp
            try with_reducible rfl
          (try simp only [List.getElem_toArray, List.getElem_cons_zero, List.getElem_cons_succ, Act.put, List.setIfInBounds_toArray, List.set_cons_zero, List.set_cons_succ])
          refine wpAnyH_take (i := 11) (v := ?_) rfl (by kernel_rfl) (by kernel_rfl) (by kernel_rfl) (fun _ _ _ h => h) (Or.inl ⟨by rfl, ?_⟩) (by assumption) ?_
          rotate_left
          · intro w' hSw
            (try dsimp only at hSw)
            obtain ⟨q0, q1, q2, q3, q4, q5, q6, q7, q8, q9, q10, q11⟩ := hSw
            go_simp
            try with_reducible rfl
          (try simp only [List.getElem_toArray, List.getElem_cons_zero, List.getElem_cons_succ, Act.put, List.setIfInBounds_toArray, List.set_cons_zero, List.set_cons_succ])
          refine wpAnyH_take (i := 12) (v := ?_) rfl (by kernel_rfl) (by kernel_rfl) (by kernel_rfl) (fun _ _ _ h => h) (Or.inl ⟨by rfl, ?_⟩) (by assumption) ?_
          rotate_left
          · intro w' hSw
            (try dsimp only at hSw)
            obtain ⟨q0, q1, q2, q3, q4, q5, q6, q7, q8, q9, q10, q11⟩ := hSw
            go_simp
            try with_reducible rfl
          (try simp only [List.getElem_toArray, List.getElem_cons_zero, List.getElem_cons_succ, Act.put, List.setIfInBounds_toArray, List.set_cons_zero, List.set_cons_succ])
          refine wpAnyH_take (i := 13) (v := ?_) rfl (by kernel_rfl) (by kernel_rfl) (by kernel_rfl) (fun _ _ _ h => h) (Or.inl ⟨by rfl, ?_⟩) (by assumption) ?_
          rotate_left
          · intro w' hSw
            (try dsimp only at hSw)
            obtain ⟨q0, q1, q2, q3, q4, q5, q6, q7, q8, q9, q10, q11⟩ := hSw
            go_simp
            try with_reducible rfl
          (try simp only [List.getElem_toArray, List.getElem_cons_zero, List.getElem_cons_succ, Act.put, List.setIfInBounds_toArray, List.set_cons_zero, List.set_cons_succ])
          refine wpAnyH_take (i := 14) (v := ?_) rfl (by kernel_rfl) (by kernel_rfl) (by kernel_rfl) (fun _ _ _ h => h) (Or.inl ⟨by rfl, ?_⟩) (by assumption) ?_
          rotate_left
          · intro w' hSw
            (try dsimp only at hSw)
            obtain ⟨q0, q1, q2, q3, q4, q5, q6, q7, q8, q9, q10, q11⟩ := hSw
            go_simp
            try with_reducible rfl
          (try simp only [List.getElem_toArray, List.getElem_cons_zero, List.getElem_cons_succ, Act.put, List.setIfInBounds_toArray, List.set_cons_zero, List.set_cons_succ])
          refine wpAnyH_take (i := 15) (v := ?_) rfl (by kernel_rfl) (by kernel_rfl) (by kernel_rfl) (fun _ _ _ h => h) (Or.inl ⟨by rfl, ?_⟩) (by assumption) ?_
          rotate_left
          · intro w' hSw
            (try dsimp only at hSw)
            obtain ⟨q0, q1, q2, q3, q4, q5, q6, q7, q8, q9, q10, q11⟩ := hSw
            go_simp
            try with_reducible rfl
          (try simp only [List.getElem_toArray, List.getElem_cons_zero, List.getElem_cons_succ, Act.put, List.setIfInBounds_toArray, List.set_cons_zero, List.set_cons_succ])
          refine wpAnyH_take (i := 16) (v := ?_) rfl (by kernel_rfl) (by kernel_rfl) (by kernel_rfl) (fun _ _ _ h => h) (Or.inl ⟨by rfl, ?_⟩) (by assumption) ?_
          rotate_left
          · intro w' hSw
            (try dsimp only at hSw)
            obtain ⟨q0, q1, q2, q3, q4, q5, q6, q7, q8, q9, q10, q11⟩ := hSw
            go_simp
            try with_reducible rfl
          (try simp only [List.getElem_toArray, List.getElem_cons_zero, List.getElem_cons_succ, Act.put, List.setIfInBounds_toArray, List.set_cons_zero, List.set_cons_succ])
          refine wpAnyH_take (i := 17) (v := ?_) rfl (by kernel_rfl) (by kernel_rfl) (by kernel_rfl) (fun _ _ _ h => h) (Or.inl ⟨by rfl, ?_⟩) (by assumption) ?_
          rotate_left
          · intro w' hSw
            (try dsimp only at hSw)
            obtain ⟨q0, q1, q2, q3, q4, q5, q6, q7, q8, q9, q10, q11⟩ := hSw
            go_simp
            try with_reducible rfl
          (try simp only [List.getElem_toArray, List.getElem_cons_zero, List.getElem_cons_succ, Act.put, List.setIfInBounds_toArray, List.set_cons_zero, List.set_cons_succ])
          refine wpAnyH_take (i := 18) (v := undef) rfl (by kernel_rfl) (by kernel_rfl) (by kernel_rfl) (fun _ _ _ h => h) (Or.inr ⟨by rfl, rfl⟩) (by assumption) ?_
          (try simp only [List.getElem_toArray, List.getElem_cons_zero, List.getElem_cons_succ, Act.put, List.setIfInBounds_toArray, List.set_cons_zero, List.set_cons_succ])
          refine wpAnyH_take (i := 19) (v := undef) rfl (by kernel_rfl) (by kernel_rfl) (by kernel_rfl) (fun _ _ _ h => h) (Or.inr ⟨by rfl, rfl⟩) (by assumption) ?_
          (try simp only [List.getElem_toArray, List.getElem_cons_zero, List.getElem_cons_succ, Act.put, List.setIfInBounds_toArray, List.set_cons_zero, List.set_cons_succ])
          refine wpAnyH_take (i := 20) (v := undef) rfl (by kernel_rfl) (by kernel_rfl) (by kernel_rfl) (fun _ _ _ h => h) (Or.inr ⟨by rfl, rfl⟩) (by assumption) ?_
          (try simp only [List.getElem_toArray, List.getElem_cons_zero, List.getElem_cons_succ, Act.put, List.setIfInBounds_toArray, List.set_cons_zero, List.set_cons_succ])
          refine wpAnyH_take (i := 21) (v := undef) rfl (by kernel_rfl) (by kernel_rfl) (by kernel_rfl) (fun _ _ _ h => h) (Or.inr ⟨by rfl, rfl⟩) (by assumption) ?_
          (try simp only [List.getElem_toArray, List.getElem_cons_zero, List.getElem_cons_succ, Act.put, List.setIfInBounds_toArray, List.set_cons_zero, List.set_cons_succ])
          refine wpAnyH_take (i := 22) (v := ?_) rfl (by kernel_rfl) (by kernel_rfl) (by kernel_rfl) (fun _ _ _ h => h) (Or.inl ⟨by rfl, ?_⟩) (by assumption) ?_
          rotate_left
          · intro w' hSw
            (try dsimp only at hSw)
            obtain ⟨q0, q1, q2, q3, q4, q5, q6, q7, q8, q9, q10, q11⟩ := hSw
            go_simp
            try with_reducible rfl
          (try simp only [List.getElem_toArray, List.getElem_cons_zero, List.getElem_cons_succ, Act.put, List.setIfInBounds_toArray, List.set_cons_zero, List.set_cons_succ])
          refine wpAnyH_take (i := 23) (v := ?_) rfl (by kernel_rfl) (by kernel_rfl) (by kernel_rfl) (fun _ _ _ h => h) (Or.inl ⟨by rfl, ?_⟩) (by assumption) ?_
          rotate_left
          · intro w' hSw
            (try dsimp only at hSw)
            obtain ⟨q0, q1, q2, q3, q4, q5, q6, q7, q8, q9, q10, q11⟩ := hSw
            go_simp
            try with_reducible rfl
          (try simp only [List.getElem_toArray, List.getElem_cons_zero, List.getElem_cons_succ, Act.put, List.setIfInBounds_toArray, List.set_cons_zero, List.set_cons_succ])
          refine wpAnyH_take (i := 24) (v := ?_) rfl (by kernel_rfl) (by kernel_rfl) (by kernel_rfl) (fun _ _ _ h => h) (Or.inl ⟨by rfl, ?_⟩) (by assumption) ?_
          rotate_left
          · intro w' hSw
            (try dsimp only at hSw)
            obtain ⟨q0, q1, q2, q3, q4, q5, q6, q7, q8, q9, q10, q11⟩ := hSw
            go_simp
            try with_reducible rfl
          (try simp only [List.getElem_toArray, List.getElem_cons_zero, List.getElem_cons_succ, Act.put, List.setIfInBounds_toArray, List.set_cons_zero, List.set_cons_succ])
          refine wpAnyH_take (i := 25) (v := ?_) rfl (by kernel_rfl) (by kernel_rfl) (by kernel_rfl) (fun _ _ _ h => h) (Or.inl ⟨by rfl, ?_⟩) (by assumption) ?_
          rotate_left
          · intro w' hSw
            (try dsimp only at hSw)
            obtain ⟨q0, q1, q2, q3, q4, q5, q6, q7, q8, q9, q10, q11⟩ := hSw
            go_simp
            try with_reducible rfl
          (try simp only [List.getElem_toArray, List.getElem_cons_zero, List.getElem_cons_succ, Act.put, List.setIfInBounds_toArray, List.set_cons_zero, List.set_cons_succ])
          refine wpAnyH_take (i := 26) (v := ?_) rfl (by kernel_rfl) (by kernel_rfl) (by kernel_rfl) (fun _ _ _ h => h) (Or.inl ⟨by rfl, ?_⟩) (by assumption) ?_
          rotate_left
          · intro w' hSw
            (try dsimp only at hSw)
            obtain ⟨q0, q1, q2, q3, q4, q5, q6, q7, q8, q9, q10, q11⟩ := hSw
            go_simp
            try with_reducible rfl
          (try simp only [List.getElem_toArray, List.getElem_cons_zero, List.getElem_cons_succ, Act.put, List.setIfInBounds_toArray, List.set_cons_zero, List.set_cons_succ])
          refine wpAnyH_take (i := 27) (v := ?_) rfl (by kernel_rfl) (by kernel_rfl) (by kernel_rfl) (fun _ _ _ h => h) (Or.inl ⟨by rfl, ?_⟩) (by assumption) ?_
          rotate_left
          · intro w' hSw
            (try dsimp only at hSw)
            obtain ⟨q0, q1, q2, q3, q4, q5, q6, q7, q8, q9, q10, q11⟩ := hSw
            go_simp
            try with_reducible rfl
          (try simp only [List.getElem_toArray, List.getElem_cons_zero, List.getElem_cons_succ, Act.put, List.setIfInBounds_toArray, List.set_cons_zero, List.set_cons_succ])
          refine wpAnyH_ready (rs := [28]) (by kernel_rfl) (by simp) ?_
          refine AllReadyH.cons rfl (fun K hK => ?_) AllReadyH.nil
          go_simp
          refine (cmp_l zT zS kT_.out kS_.out HCM.out).mono ?_
          rintro e w_6_4 ⟨rfl, hb_6_4⟩
          replace b0 := b0.below hb_6_4 b0.lt
          replace b1 := b1.below hb_6_4 b1.lt
          replace b4 := b4.below hb_6_4 b4.lt
          replace b5 := b5.below hb_6_4 b5.lt
          replace b8 := b8.below hb_6_4 b8.lt
          replace b9 := b9.below hb_6_4 b9.lt
          replace zp := zp.below hb_6_4
          replace zq := zq.below hb_6_4
          replace zQ := zQ.below hb_6_4
          replace zR := zR.below hb_6_4
          replace zS := zS.below hb_6_4
          replace zT := zT.below hb_6_4
          have ch_6_4 := ch_6_3.trans (hb_6_4.mono ch_6_3.size)
          refine hK.out _ _ (cellsD12 b0 b1 b4 b5 b8 b9) (fun hH4 => ?_)
          clear hK K ch_6_3 hb_6_4 hH
          have hH := hH4
          clear hH4
          (try simp only [List.getElem_toArray, List.getElem_cons_zero, List.getElem_cons_succ, Act.put, List.setIfInBounds_toArray, List.set_cons_zero, List.set_cons_succ])
          refine wpAnyH_take (i := 29) (v := ?_) rfl (by kernel_rfl) (by kernel_rfl) (by kernel_rfl) (fun _ _ _ h => h) (Or.inl ⟨by rfl, ?_⟩) (by assumption) ?_
          rotate_left
          · intro w' hSw
            (try dsimp only at hSw)
            obtain ⟨q0, q1, q2, q3, q4, q5, q6, q7, q8, q9, q10, q11⟩ := hSw
            go_simp
            try with_reducible rfl
          (try simp only [List.getElem_toArray, List.getElem_cons_zero, List.getElem_cons_succ, Act.put, List.setIfInBounds_toArray, List.set_cons_zero, List.set_cons_succ])
          refine wpAnyH_take (i := 30) (v := ?_) rfl (by kernel_rfl) (by kernel_rfl) (by kernel_rfl) (fun _ _ _ h => h) (Or.inl ⟨by rfl, ?_⟩) (by assumption) ?_
          rotate_left
          · intro w' hSw
            (try dsimp only at hSw)
            obtain ⟨q0, q1, q2, q3, q4, q5, q6, q7, q8, q9, q10, q11⟩ := hSw
            go_simp
            try with_reducible rfl
          (try simp only [List.getElem_toArray, List.getElem_cons_zero, List.getElem_cons_succ, Act.put, List.setIfInBounds_toArray, List.set_cons_zero, List.set_cons_succ])
          refine wpAnyH_done (by kernel_rfl) ?_ _
          clear hH
          have ch7 := ch_6_4
          clear ch_6_4
          go_wp2
          go_meet
          exact ⟨rfl, ch7⟩
      | true =>
        by_cases hR0 : R = 0
        · have HR0 : Hid (R = 0) := hR0
          clear hR0
          have hrs : rs = false := by have h0 := HRS.out; have h1 := HDM.out.2; have h2 := HR0.out; have h3 := HSQ.out; rw [← h0]; simp at h3 ⊢; omega
          subst hrs
          obtain rfl : nR = 0 := by have := HnR.out; have e : R = 0 := HR0.out; rw [e] at this; simp [digs_zero] at this; omega
          replace b0 := b0.drew
          replace b1 := b1.drew
          replace b4 := b4.drew
          replace b5 := b5.drew
          replace b8 := b8.drew
          replace b9 := b9.drew
          replace zp := whz_drew zp
          replace zq := whz_drew zq
          replace zQ := whz_drew zQ
          replace zR := whz_drew zR
          replace zS := whz_drew zS
          replace zT := whz_drew zT
          have ch_7_0 := hq9.drew
          clear hq9
          have kk_7_0 := cellsD12 b0 b1 b4 b5 b8 b9
          refine wp_region_held_drew (S := fun w' => w'.cell? ⟨w.heap.size, 0, none⟩ = some (.bool x) ∧ w'.cell? ⟨w.heap.size, 1, none⟩ = some (.slice A na ca) ∧ w'.cell? ⟨(w.heap.size + 1), 0, none⟩ = some (.bool true) ∧ w'.cell? ⟨(w.heap.size + 1), 1, none⟩ = some (.slice B nb cb) ∧ w'.cell? ⟨u3.heap.size, 0, none⟩ = some (.bool qs) ∧ w'.cell? ⟨u3.heap.size, 1, none⟩ = some (.slice QA nQ cQ) ∧ w'.cell? ⟨(u3.heap.size + 1), 0, none⟩ = some (.bool false) ∧ w'.cell? ⟨(u3.heap.size + 1), 1, none⟩ = some (.slice RA 0 cR) ∧ w'.cell? ⟨g8, 0, none⟩ = some (.bool false) ∧ w'.cell? ⟨g8, 1, none⟩ = some (.slice B nb cb) ∧ w'.cell? ⟨g9, 0, none⟩ = some (.bool false) ∧ w'.cell? ⟨g9, 1, none⟩ = some (.slice RA 0 cR)) (by kernel_rfl) kk_7_0 (fun hH => ?_)
          clear kk_7_0
          refine wpAnyH_take (i := 0) (v := ?_) rfl (by kernel_rfl) (by kernel_rfl) (by kernel_rfl) (fun _ _ _ h => h) (Or.inl ⟨by rfl, ?_⟩) (by assumption) ?_
          rotate_left
          · intro w' hSw
            (try dsimp only at hSw)
            obtain ⟨q0, q1, q2, q3, q4, q5, q6, q7, q8, q9, q10, q11⟩ := hSw
            go_simp
            try with_reducible rfl
          (try simp only [List.getElem_toArray, List.getElem_cons_zero, List.getElem_cons_succ, Act.put, List.setIfInBounds_toArray, List.set_cons_zero, List.set_cons_succ])
          refine wpAnyH_take (i := 1) (v := ?_) rfl (by kernel_rfl) (by kernel_rfl) (by kernel_rfl) (fun _ _ _ h => h) (Or.inl ⟨by rfl, ?_⟩) (by assumption) ?_
          rotate_left
          · intro w' hSw
            (try dsimp only at hSw)
            obtain ⟨q0, q1, q2, q3, q4, q5, q6, q7, q8, q9, q10, q11⟩ := hSw
            go_simp
            try with_reducible rfl
          (try simp only [List.getElem_toArray, List.getElem_cons_zero, List.getElem_cons_succ, Act.put, List.setIfInBounds_toArray, List.set_cons_zero, List.set_cons_succ])
          refine wpAnyH_take (i := 2) (v := ?_) rfl (by kernel_rfl) (by kernel_rfl) (by kernel_rfl) (fun _ _ _ h => h) (Or.inl ⟨by rfl, ?_⟩) (by assumption) ?_
          rotate_left
          · intro w' hSw
            (try dsimp only at hSw)
            obtain ⟨q0, q1, q2, q3, q4, q5, q6, q7, q8, q9, q10, q11⟩ := hSw
            go_simp
            try with_reducible rfl
          (try simp only [List.getElem_toArray, List.getElem_cons_zero, List.getElem_cons_succ, Act.put, List.setIfInBounds_toArray, List.set_cons_zero, List.set_cons_succ])
          refine wpAnyH_take (i := 3) (v := ?_) rfl (by kernel_rfl) (by kernel_rfl) (by kernel_rfl) (fun _ _ _ h => h) (Or.inl ⟨by rfl, ?_⟩) (by assumption) ?_
          rotate_left
          · intro w' hSw
            (try dsimp only at hSw)
            obtain ⟨q0, q1, q2, q3, q4, q5, q6, q7, q8, q9, q10, q11⟩ := hSw
            go_simp
            try with_reducible rfl
          (try simp only [List.getElem_toArray, List.getElem_cons_zero, List.getElem_cons_succ, Act.put, List.setIfInBounds_toArray, List.set_cons_zero, List.set_cons_succ])
          refine wpAnyH_take (i := 4) (v := ?_) rfl (by kernel_rfl) (by kernel_rfl) (by kernel_rfl) (fun _ _ _ h => h) (Or.inl ⟨by rfl, ?_⟩) (by assumption) ?_
          rotate_left
          · intro w' hSw
            (try dsimp only at hSw)
            obtain ⟨q0, q1, q2, q3, q4, q5, q6, q7, q8, q9, q10, q11⟩ := hSw
            go_simp
            try with_reducible rfl
          (try simp only [List.getElem_toArray, List.getElem_cons_zero, List.getElem_cons_succ, Act.put, List.setIfInBounds_toArray, List.set_cons_zero, List.set_cons_succ])
          refine wpAnyH_take (i := 6) (v := ?_) rfl (by kernel_rfl) (by kernel_rfl) (by kernel_rfl) (fun _ _ _ h => h) (Or.inl ⟨by rfl, ?_⟩) (by assumption) ?_
          rotate_left
          · intro w' hSw
            (try dsimp only at hSw)
            obtain ⟨q0, q1, q2, q3, q4, q5, q6, q7, q8, q9, q10, q11⟩ := hSw
            go_simp
            try with_reducible rfl
          (try simp only [List.getElem_toArray, List.getElem_cons_zero, List.getElem_cons_succ, Act.put, List.setIfInBounds_toArray, List.set_cons_zero, List.set_cons_succ])
          refine wpAnyH_take (i := 8) (v := ?_) rfl (by kernel_rfl) (by kernel_rfl) (by kernel_rfl) (fun _ _ _ h => h) (Or.inl ⟨by rfl, ?_⟩) (by assumption) ?_
          rotate_left
          · intro w' hSw
            (try dsimp only at hSw)
            obtain ⟨q0, q1, q2, q3, q4, q5, q6, q7, q8, q9, q10, q11⟩ := hSw
            go_simp
            try with_reducible rfl
          (try simp only [List.getElem_toArray, List.getElem_cons_zero, List.getElem_cons_succ, Act.put, List.setIfInBounds_toArray, List.set_cons_zero, List.set_cons_succ])
          refine wpAnyH_ready (rs := [5]) (by kernel_rfl) (by simp) ?_
          refine AllReadyH.cons rfl (fun K hK => ?_) AllReadyH.nil
          go_simp
          refine (prodv zQ zq kQ_.out kzq_.out kP_.out).mono ?_
          rintro e w_7_1 ⟨vzP, rfl, zP, hb_7_1⟩
          replace b0 := b0.below hb_7_1 b0.lt
          replace b1 := b1.below hb_7_1 b1.lt
          replace b4 := b4.below hb_7_1 b4.lt
          replace b5 := b5.below hb_7_1 b5.lt
          replace b8 := b8.below hb_7_1 b8.lt
          replace b9 := b9.below hb_7_1 b9.lt
          replace zp := zp.below hb_7_1
          replace zq := zq.below hb_7_1
          replace zQ := zQ.below hb_7_1
          replace zR := zR.below hb_7_1
          replace zS := zS.below hb_7_1
          replace zT := zT.below hb_7_1
          have ch_7_1 := ch_7_0.trans (hb_7_1.mono ch_7_0.size)
          refine hK.out _ _ (cellsD12 b0 b1 b4 b5 b8 b9) (fun hH1 => ?_)
          clear hK K ch_7_0 hb_7_1 hH
          have hH := hH1
          clear hH1
          (try simp only [List.getElem_toArray, List.getElem_cons_zero, List.getElem_cons_succ, Act.put, List.setIfInBounds_toArray, List.set_cons_zero, List.set_cons_succ])
          refine wpAnyH_ready (rs := [7]) (by kernel_rfl) (by simp) ?_
          refine AllReadyH.cons rfl (fun K hK => ?_) AllReadyH.nil
          go_simp
          refine (sumv zP zR kP_.out kR_.out kA_.out).mono ?_
          rintro e w_7_2 ⟨vzA, rfl, zA, hb_7_2⟩
          replace b0 := b0.below hb_7_2 b0.lt
          replace b1 := b1.below hb_7_2 b1.lt
          replace b4 := b4.below hb_7_2 b4.lt
          replace b5 := b5.below hb_7_2 b5.lt
          replace b8 := b8.below hb_7_2 b8.lt
          replace b9 := b9.below hb_7_2 b9.lt
          replace zp := zp.below hb_7_2
          replace zq := zq.below hb_7_2
          replace zQ := zQ.below hb_7_2
          replace zR := zR.below hb_7_2
          replace zS := zS.below hb_7_2
          replace zT := zT.below hb_7_2
          clear zP
          have ch_7_2 := ch_7_1.trans (hb_7_2.mono ch_7_1.size)
          refine hK.out _ _ (cellsD12 b0 b1 b4 b5 b8 b9) (fun hH2 => ?_)
          clear hK K ch_7_1 hb_7_2 hH
          have hH := hH2
          clear hH2
          (try simp only [List.getElem_toArray, List.getElem_cons_zero, List.getElem_cons_succ, Act.put, List.setIfInBounds_toArray, List.set_cons_zero, List.set_cons_succ])
          refine wpAnyH_ready (rs := [9]) (by kernel_rfl) (by simp) ?_
          refine AllReadyH.cons rfl (fun K hK => ?_) AllReadyH.nil
          go_simp
          refine (equal_l zA zp kA_.out kzp_.out HDM.out.1).mono ?_
          rintro e w_7_3 ⟨rfl, hb_7_3⟩
          replace b0 := b0.below hb_7_3 b0.lt
          replace b1 := b1.below hb_7_3 b1.lt
          replace b4 := b4.below hb_7_3 b4.lt
          replace b5 := b5.below hb_7_3 b5.lt
          replace b8 := b8.below hb_7_3 b8.lt
          replace b9 := b9.below hb_7_3 b9.lt
          replace zp := zp.below hb_7_3
          replace zq := zq.below hb_7_3
          replace zQ := zQ.below hb_7_3
          replace zR := zR.below hb_7_3
          replace zS := zS.below hb_7_3
          replace zT := zT.below hb_7_3
          clear zA
          have ch_7_3 := ch_7_2.trans (hb_7_3.mono ch_7_2.size)
          refine hK.out _ _ (cellsD12 b0 b1 b4 b5 b8 b9) (fun hH3 => ?_)
          clear hK K ch_7_2 hb_7_3 hH
          have hH := hH3
          clear hH3
          (try simp only [List.getElem_toArray, List.getElem_cons_zero, List.getElem_cons_succ, Act.put, List.setIfInBounds_toArray, List.set_cons_zero, List.set_cons_succ])
          refine wpAnyH_take (i := 10) (v := ?_) rfl (by kernel_rfl) (by kernel_rfl) (by kernel_rfl) (fun _ _ _ h => h) (Or.inl ⟨by rfl, ?_⟩) (by assumption) ?_
          rotate_left
          · intro w' hSw
            (try dsimp only at hSw)
            obtain ⟨q0, q1, q2, q3, q4, q5, q6, q7, q8, q9, q10, q11⟩ := hSw
            go_simp
            try with_reducible rfl
          (try simp only [List.getElem_toArray, List.getElem_cons_zero, List.getElem_cons_succ, Act.put, List.setIfInBounds_toArray, List.set_cons_zero, List.set_cons_succ])
          refine wpAnyH_take (i := 11) (v := ?_) rfl (by kernel_rfl) (by kernel_rfl) (by kernel_rfl) (fun _ _ _ h => h) (Or.inl ⟨by rfl, ?_⟩) (by assumption) ?_
          rotate_left
          · intro w' hSw
            (try dsimp only at hSw)
            obtain ⟨q0, q1, q2, q3, q4, q5, q6, q7, q8, q9, q10, q11⟩ := hSw
            go_simp
            try with_reducible rfl
          (try simp only [List.getElem_toArray, List.getElem_cons_zero, List.getElem_cons_succ, Act.put, List.setIfInBounds_toArray, List.set_cons_zero, List.set_cons_succ])
          refine wpAnyH_take (i := 12) (v := ?_) rfl (by kernel_rfl) (by kernel_rfl) (by kernel_rfl) (fun _ _ _ h => h) (Or.inl ⟨by rfl, ?_⟩) (by assumption) ?_
          rotate_left
          · intro w' hSw
            (try dsimp only at hSw)
            obtain ⟨q0, q1, q2, q3, q4, q5, q6, q7, q8, q9, q10, q11⟩ := hSw
            go_simp
            try with_reducible rfl
          (try simp only [List.getElem_toArray, List.getElem_cons_zero, List.getElem_cons_succ, Act.put, List.setIfInBounds_toArray, List.set_cons_zero, List.set_cons_succ])
          refine wpAnyH_take (i := 13) (v := ?_) rfl (by kernel_rfl) (by kernel_rfl) (by kernel_rfl) (fun _ _ _ h => h) (Or.inl ⟨by rfl, ?_⟩) (by assumption) ?_
          rotate_left
          · intro w' hSw
            (try dsimp only at hSw)
            obtain ⟨q0, q1, q2, q3, q4, q5, q6, q7, q8, q9, q10, q11⟩ := hSw
            go_simp
            try with_reducible rfl
          (try simp only [List.getElem_toArray, List.getElem_cons_zero, List.getElem_cons_succ, Act.put, List.setIfInBounds_toArray, List.set_cons_zero, List.set_cons_succ])
          refine wpAnyH_take (i := 14) (v := ?_) rfl (by kernel_rfl) (by kernel_rfl) (by kernel_rfl) (fun _ _ _ h => h) (Or.inl ⟨by rfl, ?_⟩) (by assumption) ?_
          rotate_left
          · intro w' hSw
            (try dsimp only at hSw)
            obtain ⟨q0, q1, q2, q3, q4, q5, q6, q7, q8, q9, q10, q11⟩ := hSw
            go_simp
            try with_reducible rfl
          (try simp only [List.getElem_toArray, List.getElem_cons_zero, List.getElem_cons_succ, Act.put, List.setIfInBounds_toArray, List.set_cons_zero, List.set_cons_succ])
          refine wpAnyH_take (i := 15) (v := ?_) rfl (by kernel_rfl) (by kernel_rfl) (by kernel_rfl) (fun _ _ _ h => h) (Or.inl ⟨by rfl, ?_⟩) (by assumption) ?_
          rotate_left
          · intro w' hSw
            (try dsimp only at hSw)
            obtain ⟨q0, q1, q2, q3, q4, q5, q6, q7, q8, q9, q10, q11⟩ := hSw
            go_simp
            try with_reducible rfl
          (try simp only [List.getElem_toArray, List.getElem_cons_zero, List.getElem_cons_succ, Act.put, List.setIfInBounds_toArray, List.set_cons_zero, List.set_cons_succ])
          refine wpAnyH_take (i := 16) (v := ?_) rfl (by kernel_rfl) (by kernel_rfl) (by kernel_rfl) (fun _ _ _ h => h) (Or.inl ⟨by rfl, ?_⟩) (by assumption) ?_
          rotate_left
          · intro w' hSw
            (try dsimp only at hSw)
            obtain ⟨q0, q1, q2, q3, q4, q5, q6, q7, q8, q9, q10, q11⟩ := hSw
            go_simp
            try with_reducible rfl
          (try simp only [List.getElem_toArray, List.getElem_cons_zero, List.getElem_cons_succ, Act.put, List.setIfInBounds_toArray, List.set_cons_zero, List.set_cons_succ])
          refine wpAnyH_take (i := 17) (v := ?_) rfl (by kernel_rfl) (by kernel_rfl) (by kernel_rfl) (fun _ _ _ h => h) (Or.inl ⟨by rfl, ?_⟩) (by assumption) ?_
          rotate_left
          · intro w' hSw
            (try dsimp only at hSw)
            obtain ⟨q0, q1, q2, q3, q4, q5, q6, q7, q8, q9, q10, q11⟩ := hSw
            go_simp
            try with_reducible rfl
          (try simp only [List.getElem_toArray, List.getElem_cons_zero, List.getElem_cons_succ, Act.put, List.setIfInBounds_toArray, List.set_cons_zero, List.set_cons_succ])
          refine wpAnyH_take (i := 18) (v := ?_) rfl (by kernel_rfl) (by kernel_rfl) (by kernel_rfl) (fun _ _ _ h => h) (Or.inl ⟨by rfl, ?_⟩) (by assumption) ?_
          rotate_left
          · intro w' hSw
            (try dsimp only at hSw)
            obtain ⟨q0, q1, q2, q3, q4, q5, q6, q7, q8, q9, q10, q11⟩ := hSw
            go_simp
            try with_reducible rfl
          (try simp only [List.getElem_toArray, List.getElem_cons_zero, List.getElem_cons_succ, Act.put, List.setIfInBounds_toArray, List.set_cons_zero, List.set_cons_succ])
          refine wpAnyH_take (i := 19) (v := ?_) rfl (by kernel_rfl) (by kernel_rfl) (by kernel_rfl) (fun _ _ _ h => h) (Or.inl ⟨by rfl, ?_⟩) (by assumption) ?_
          rotate_left
          · intro w' hSw
            (try dsimp only at hSw)
            obtain ⟨q0, q1, q2, q3, q4, q5, q6, q7, q8, q9, q10, q11⟩ := hSw
            go_simp
            try with_reducible rfl
          (try simp only [List.getElem_toArray, List.getElem_cons_zero, List.getElem_cons_succ, Act.put, List.setIfInBounds_toArray, List.set_cons_zero, List.set_cons_succ])
          refine wpAnyH_take (i := 20) (v := ?_) rfl (by kernel_rfl) (by kernel_rfl) (by kernel_rfl) (fun _ _ _ h => h) (Or.inl ⟨by rfl, ?_⟩) (by assumption) ?_
          rotate_left
          · intro w' hSw
            (try dsimp only at hSw)
            obtain ⟨q0, q1, q2, q3, q4, q5, q6, q7, q8, q9, q10, q11⟩ := hSw
            go_simp
            try with_reducible rfl
          (try simp only [List.getElem_toArray, List.getElem_cons_zero, List.getElem_cons_succ, Act.put, List.setIfInBounds_toArray, List.set_cons_zero, List.set_cons_succ])
          refine wpAnyH_take (i := 21) (v := ?_) rfl (by kernel_rfl) (by kernel_rfl) (by kernel_rfl) (fun _ _ _ h => h) (Or.inl ⟨by rfl, ?_⟩) (by assumption) ?_
          rotate_left
          · intro w' hSw
            (try dsimp only at hSw)
            obtain ⟨q0, q1, q2, q3, q4, q5, q6, q7, q8, q9, q10, q11⟩ := hSw
            go_simp
            try with_reducible rfl
          (try simp only [List.getElem_toArray, List.getElem_cons_zero, List.getElem_cons_succ, Act.put, List.setIfInBounds_toArray, List.set_cons_zero, List.set_cons_succ])
          refine wpAnyH_take (i := 22) (v := ?_) rfl (by kernel_rfl) (by kernel_rfl) (by kernel_rfl) (fun _ _ _ h => h) (Or.inl ⟨by rfl, ?_⟩) (by assumption) ?_
          rotate_left
          · intro w' hSw
            (try dsimp only at hSw)
            obtain ⟨q0, q1, q2, q3, q4, q5, q6, q7, q8, q9, q10, q11⟩ := hSw
            go_simp
            try with_reducible rfl
          (try simp only [List.getElem_toArray, List.getElem_cons_zero, List.getElem_cons_succ, Act.put, List.setIfInBounds_toArray, List.set_cons_zero, List.set_cons_succ])
          refine wpAnyH_take (i := 23) (v := ?_) rfl (by kernel_rfl) (by kernel_rfl) (by kernel_rfl) (fun _ _ _ h => h) (Or.inl ⟨by rfl, ?_⟩) (by assumption) ?_
          rotate_left
          · intro w' hSw
            (try dsimp only at hSw)
            obtain ⟨q0, q1, q2, q3, q4, q5, q6, q7, q8, q9, q10, q11⟩ := hSw
            go_simp
            try with_reducible rfl
          (try simp only [List.getElem_toArray, List.getElem_cons_zero, List.getElem_cons_succ, Act.put, List.setIfInBounds_toArray, List.set_cons_zero, List.set_cons_succ])
          refine wpAnyH_take (i := 24) (v := ?_) rfl (by kernel_rfl) (by kernel_rfl) (by kernel_rfl) (fun _ _ _ h => h) (Or.inl ⟨by rfl, ?_⟩) (by assumption) ?_
          rotate_left
          · intro w' hSw
            (try dsimp only at hSw)
            obtain ⟨q0, q1, q2, q3, q4, q5, q6, q7, q8, q9, q10, q11⟩ := hSw
            go_simp
            try with_reducible rfl
          (try simp only [List.getElem_toArray, List.getElem_cons_zero, List.getElem_cons_succ, Act.put, List.setIfInBounds_toArray, List.set_cons_zero, List.set_cons_succ])
          refine wpAnyH_take (i := 25) (v := ?_) rfl (by kernel_rfl) (by kernel_rfl) (by kernel_rfl) (fun _ _ _ h => h) (Or.inl ⟨by rfl, ?_⟩) (by assumption) ?_
          rotate_left
          · intro w' hSw
            (try dsimp only at hSw)
            obtain ⟨q0, q1, q2, q3, q4, q5, q6, q7, q8, q9, q10, q11⟩ := hSw
            go_simp
            try with_reducible rfl
          (try simp only [List.getElem_toArray, List.getElem_cons_zero, List.getElem_cons_succ, Act.put, List.setIfInBounds_toArray, List.set_cons_zero, List.set_cons_succ])
          refine wpAnyH_take (i := 26) (v := ?_) rfl (by kernel_rfl) (by kernel_rfl) (by kernel_rfl) (fun _ _ _ h => h) (Or.inl ⟨by rfl, ?_⟩) (by assumption) ?_
          rotate_left
          · intro w' hSw
            (try dsimp only at hSw)
            obtain ⟨q0, q1, q2, q3, q4, q5, q6, q7, q8, q9, q10, q11⟩ := hSw
            go_simp
            try with_reducible rfl
          (try simp only [List.getElem_toArray, List.getElem_cons_zero, List.getElem_cons_succ, Act.put, List.setIfInBounds_toArray, List.set_cons_zero, List.set_cons_succ])
          refine wpAnyH_take (i := 27) (v := ?_) rfl (by kernel_rfl) (by kernel_rfl) (by kernel_rfl) (fun _ _ _ h => h) (Or.inl ⟨by rfl, ?_⟩) (by assumption) ?_
          rotate_left
          · intro w' hSw
            (try dsimp only at hSw)
            obtain ⟨q0, q1, q2, q3, q4, q5, q6, q7, q8, q9, q10, q11⟩ := hSw
            go_simp
            try with_reducible rfl
          (try simp only [List.getElem_toArray, List.getElem_cons_zero, List.getElem_cons_succ, Act.put, List.setIfInBounds_toArray, List.set_cons_zero, List.set_cons_succ])
          refine wpAnyH_ready (rs := [28]) (by kernel_rfl) (by simp) ?_
          refine AllReadyH.cons rfl (fun K hK => ?_) AllReadyH.nil
          go_simp
          refine (cmp_l zT zS kT_.out kS_.out HCM.out).mono ?_
          rintro e w_7_4 ⟨rfl, hb_7_4⟩
          replace b0 := b0.below hb_7_4 b0.lt
          replace b1 := b1.below hb_7_4 b1.lt
          replace b4 := b4.below hb_7_4 b4.lt
          replace b5 := b5.below hb_7_4 b5.lt
          replace b8 := b8.below hb_7_4 b8.lt
          replace b9 := b9.below hb_7_4 b9.lt
          replace zp := zp.below hb_7_4
          replace zq := zq.below hb_7_4
          replace zQ := zQ.below hb_7_4
          replace zR := zR.below hb_7_4
          replace zS := zS.below hb_7_4
          replace zT := zT.below hb_7_4
          have ch_7_4 := ch_7_3.trans (hb_7_4.mono ch_7_3.size)
          refine hK.out _ _ (cellsD12 b0 b1 b4 b5 b8 b9) (fun hH4 => ?_)
          clear hK K ch_7_3 hb_7_4 hH
          have hH := hH4
          clear hH4
          (try simp only [List.getElem_toArray, List.getElem_cons_zero, List.getElem_cons_succ, Act.put, List.setIfInBounds_toArray, List.set_cons_zero, List.set_cons_succ])
          refine wpAnyH_take (i := 29) (v := ?_) rfl (by kernel_rfl) (by kernel_rfl) (by kernel_rfl) (fun _ _ _ h => h) (Or.inl ⟨by rfl, ?_⟩) (by assumption) ?_
          rotate_left
          · intro w' hSw
            (try dsimp only at hSw)
            obtain ⟨q0, q1, q2, q3, q4, q5, q6, q7, q8, q9, q10, q11⟩ := hSw
            go_simp
            try with_reducible rfl
          (try simp only [List.getElem_toArray, List.getElem_cons_zero, List.getElem_cons_succ, Act.put, List.setIfInBounds_toArray, List.set_cons_zero, List.set_cons_succ])
          refine wpAnyH_take (i := 30) (v := ?_) rfl (by kernel_rfl) (by kernel_rfl) (by kernel_rfl) (fun _ _ _ h => h) (Or.inl ⟨by rfl, ?_⟩) (by assumption) ?_
          rotate_left
          · intro w' hSw
            (try dsimp only at hSw)
            obtain ⟨q0, q1, q2, q3, q4, q5, q6, q7, q8, q9, q10, q11⟩ := hSw
            go_simp
            try with_reducible rfl
          (try simp only [List.getElem_toArray, List.getElem_cons_zero, List.getElem_cons_succ, Act.put, List.setIfInBounds_toArray, List.set_cons_zero, List.set_cons_succ])
          refine wpAnyH_done (by kernel_rfl) ?_ _
          clear hH
          have ch7 := ch_7_4
          clear ch_7_4
          go_wp2
          go_meet
          exact ⟨rfl, ch7⟩
        · have HR0 : Hid (R ≠ 0) := hR0
          clear hR0
          have hrs : rs = true := by have h0 := HRS.out; have h1 := HDM.out.2; have h2 := HR0.out; have h3 := HSQ.out; rw [← h0]; simp at h3 ⊢; omega
          subst hrs
          have hnR0 : 0 < nR := by have := HnR.out; have := pos_digs (n := R.natAbs) (by have := HR0.out; omega); omega
          replace b0 := b0.drew
          replace b1 := b1.drew
          replace b4 := b4.drew
          replace b5 := b5.drew
          replace b8 := b8.drew
          replace b9 := b9.drew
          replace zp := whz_drew zp
          replace zq := whz_drew zq
          replace zQ := whz_drew zQ
          replace zR := whz_drew zR
          replace zS := whz_drew zS
          replace zT := whz_drew zT
          have ch_8_0 := hq9.drew
          clear hq9
          have kk_8_0 := cellsD12 b0 b1 b4 b5 b8 b9
          refine wp_region_held_drew (S := fun w' => w'.cell? ⟨w.heap.size, 0, none⟩ = some (.bool x) ∧ w'.cell? ⟨w.heap.size, 1, none⟩ = some (.slice A na ca) ∧ w'.cell? ⟨(w.heap.size + 1), 0, none⟩ = some (.bool true) ∧ w'.cell? ⟨(w.heap.size + 1), 1, none⟩ = some (.slice B nb cb) ∧ w'.cell? ⟨u3.heap.size, 0, none⟩ = some (.bool qs) ∧ w'.cell? ⟨u3.heap.size, 1, none⟩ = some (.slice QA nQ cQ) ∧ w'.cell? ⟨(u3.heap.size + 1), 0, none⟩ = some (.bool true) ∧ w'.cell? ⟨(u3.heap.size + 1), 1, none⟩ = some (.slice RA nR cR) ∧ w'.cell? ⟨g8, 0, none⟩ = some (.bool false) ∧ w'.cell? ⟨g8, 1, none⟩ = some (.slice B nb cb) ∧ w'.cell? ⟨g9, 0, none⟩ = some (.bool false) ∧ w'.cell? ⟨g9, 1, none⟩ = some (.slice RA nR cR)) (by kernel_rfl) kk_8_0 (fun hH => ?_)
          clear kk_8_0
          refine wpAnyH_take (i := 0) (v := ?_) rfl (by kernel_rfl) (by kernel_rfl) (by kernel_rfl) (fun _ _ _ h => h) (Or.inl ⟨by rfl, ?_⟩) (by assumption) ?_
          rotate_left
          · intro w' hSw
            (try dsimp only at hSw)
            obtain ⟨q0, q1, q2, q3, q4, q5, q6, q7, q8, q9, q10, q11⟩ := hSw
            go_simp
            try with_reducible rfl
          (try simp only [List.getElem_toArray, List.getElem_cons_zero, List.getElem_cons_succ, Act.put, List.setIfInBounds_toArray, List.set_cons_zero, List.set_cons_succ])
          refine wpAnyH_take (i := 1) (v := ?_) rfl (by kernel_rfl) (by kernel_rfl) (by kernel_rfl) (fun _ _ _ h => h) (Or.inl ⟨by rfl, ?_⟩) (by assumption) ?_
          rotate_left
          · intro w' hSw
            (try dsimp only at hSw)
            obtain ⟨q0, q1, q2, q3, q4, q5, q6, q7, q8, q9, q10, q11⟩ := hSw
            go_simp
            try with_reducible rfl
          (try simp only [List.getElem_toArray, List.getElem_cons_zero, List.getElem_cons_succ, Act.put, List.setIfInBounds_toArray, List.set_cons_zero, List.set_cons_succ])
          refine wpAnyH_take (i := 2) (v := ?_) rfl (by kernel_rfl) (by kernel_rfl) (by kernel_rfl) (fun _ _ _ h => h) (Or.inl ⟨by rfl, ?_⟩) (by assumption) ?_
          rotate_left
          · intro w' hSw
            (try dsimp only at hSw)
            obtain ⟨q0, q1, q2, q3, q4, q5, q6, q7, q8, q9, q10, q11⟩ := hSw
            go_simp
            try with_reducible rfl
          (try simp only [List.getElem_toArray, List.getElem_cons_zero, List.getElem_cons_succ, Act.put, List.setIfInBounds_toArray, List.set_cons_zero, List.set_cons_succ])
          refine wpAnyH_take (i := 3) (v := ?_) rfl (by kernel_rfl) (by kernel_rfl) (by kernel_rfl) (fun _ _ _ h => h) (Or.inl ⟨by rfl, ?_⟩) (by assumption) ?_
          rotate_left
          · intro w' hSw
            (try dsimp only at hSw)
            obtain ⟨q0, q1, q2, q3, q4, q5, q6, q7, q8, q9, q10, q11⟩ := hSw
            go_simp
            try with_reducible rfl
          (try simp only [List.getElem_toArray, List.getElem_cons_zero, List.getElem_cons_succ, Act.put, List.setIfInBounds_toArray, List.set_cons_zero, List.set_cons_succ])
          refine wpAnyH_take (i := 4) (v := ?_) rfl (by kernel_rfl) (by kernel_rfl) (by kernel_rfl) (fun _ _ _ h => h) (Or.inl ⟨by rfl, ?_⟩) (by assumption) ?_
          rotate_left
          · intro w' hSw
            (try dsimp only at hSw)
            obtain ⟨q0, q1, q2, q3, q4, q5, q6, q7, q8, q9, q10, q11⟩ := hSw
            go_simp
            try with_reducible rfl
          (try simp only [List.getElem_toArray, List.getElem_cons_zero, List.getElem_cons_succ, Act.put, List.setIfInBounds_toArray, List.set_cons_zero, List.set_cons_succ])
          refine wpAnyH_take (i := 6) (v := ?_) rfl (by kernel_rfl) (by kernel_rfl) (by kernel_rfl) (fun _ _ _ h => h) (Or.inl ⟨by rfl, ?_⟩) (by assumption) ?_
          rotate_left
          · intro w' hSw
            (try dsimp only at hSw)
            obtain ⟨q0, q1, q2, q3, q4, q5, q6, q7, q8, q9, q10, q11⟩ := hSw
            go_simp
            try with_reducible rfl
          (try simp only [List.getElem_toArray, List.getElem_cons_zero, List.getElem_cons_succ, Act.put, List.setIfInBounds_toArray, List.set_cons_zero, List.set_cons_succ])
          refine wpAnyH_take (i := 8) (v := ?_) rfl (by kernel_rfl) (by kernel_rfl) (by kernel_rfl) (fun _ _ _ h => h) (Or.inl ⟨by rfl, ?_⟩) (by assumption) ?_
          rotate_left
          · intro w' hSw
            (try dsimp only at hSw)
            obtain ⟨q0, q1, q2, q3, q4, q5, q6, q7, q8, q9, q10, q11⟩ := hSw
            go_simp
            try with_reducible rfl
          (try simp only [List.getElem_toArray, List.getElem_cons_zero, List.getElem_cons_succ, Act.put, List.setIfInBounds_toArray, List.set_cons_zero, List.set_cons_succ])
          refine wpAnyH_ready (rs := [5]) (by kernel_rfl) (by simp) ?_
          refine AllReadyH.cons rfl (fun K hK => ?_) AllReadyH.nil
          go_simp
          refine (prodv zQ zq kQ_.out kzq_.out kP_.out).mono ?_
          rintro e w_8_1 ⟨vzP, rfl, zP, hb_8_1⟩
          replace b0 := b0.below hb_8_1 b0.lt
          replace b1 := b1.below hb_8_1 b1.lt
          replace b4 := b4.below hb_8_1 b4.lt
          replace b5 := b5.below hb_8_1 b5.lt
          replace b8 := b8.below hb_8_1 b8.lt
          replace b9 := b9.below hb_8_1 b9.lt
          replace zp := zp.below hb_8_1
          replace zq := zq.below hb_8_1
          replace zQ := zQ.below hb_8_1
          replace zR := zR.below hb_8_1
          replace zS := zS.below hb_8_1
          replace zT := zT.below hb_8_1
          have ch_8_1 := ch_8_0.trans (hb_8_1.mono ch_8_0.size)
          refine hK.out _ _ (cellsD12 b0 b1 b4 b5 b8 b9) (fun hH1 => ?_)
          clear hK K ch_8_0 hb_8_1 hH
          have hH := hH1
          clear hH1
          (try simp only [List.getElem_toArray, List.getElem_cons_zero, List.getElem_cons_succ, Act.put, List.setIfInBounds_toArray, List.set_cons_zero, List.set_cons_succ])
          refine wpAnyH_ready (rs := [7]) (by kernel_rfl) (by simp) ?_
          refine AllReadyH.cons rfl (fun K hK => ?_) AllReadyH.nil
          go_simp
          refine (sumv zP zR kP_.out kR_.out kA_.out).mono ?_
          rintro e w_8_2 ⟨vzA, rfl, zA, hb_8_2⟩
          replace b0 := b0.below hb_8_2 b0.lt
          replace b1 := b1.below hb_8_2 b1.lt
          replace b4 := b4.below hb_8_2 b4.lt
          replace b5 := b5.below hb_8_2 b5.lt
          replace b8 := b8.below hb_8_2 b8.lt
          replace b9 := b9.below hb_8_2 b9.lt
          replace zp := zp.below hb_8_2
          replace zq := zq.below hb_8_2
          replace zQ := zQ.below hb_8_2
          replace zR := zR.below hb_8_2
          replace zS := zS.below hb_8_2
          replace zT := zT.below hb_8_2
          clear zP
          have ch_8_2 := ch_8_1.trans (hb_8_2.mono ch_8_1.size)
          refine hK.out _ _ (cellsD12 b0 b1 b4 b5 b8 b9) (fun hH2 => ?_)
          clear hK K ch_8_1 hb_8_2 hH
          have hH := hH2
          clear hH2
          (try simp only [List.getElem_toArray, List.getElem_cons_zero, List.getElem_cons_succ, Act.put, List.setIfInBounds_toArray, List.set_cons_zero, List.set_cons_succ])
          refine wpAnyH_ready (rs := [9]) (by kernel_rfl) (by simp) ?_
          refine AllReadyH.cons rfl (fun K hK => ?_) AllReadyH.nil
          go_simp
          refine (equal_l zA zp kA_.out kzp_.out HDM.out.1).mono ?_
          rintro e w_8_3 ⟨rfl, hb_8_3⟩
          replace b0 := b0.below hb_8_3 b0.lt
          replace b1 := b1.below hb_8_3 b1.lt
          replace b4 := b4.below hb_8_3 b4.lt
          replace b5 := b5.below hb_8_3 b5.lt
          replace b8 := b8.below hb_8_3 b8.lt
          replace b9 := b9.below hb_8_3 b9.lt
          replace zp := zp.below hb_8_3
          replace zq := zq.below hb_8_3
          replace zQ := zQ.below hb_8_3
          replace zR := zR.below hb_8_3
          replace zS := zS.below hb_8_3
          replace zT := zT.below hb_8_3
          clear zA
          have ch_8_3 := ch_8_2.trans (hb_8_3.mono ch_8_2.size)
          refine hK.out _ _ (cellsD12 b0 b1 b4 b5 b8 b9) (fun hH3 => ?_)
          clear hK K ch_8_2 hb_8_3 hH
          have hH := hH3
          clear hH3
          (try simp only [List.getElem_toArray, List.getElem_cons_zero, List.getElem_cons_succ, Act.put, List.setIfInBounds_toArray, List.set_cons_zero, List.set_cons_succ])
          refine wpAnyH_take (i := 10) (v := ?_) rfl (by kernel_rfl) (by kernel_rfl) (by kernel_rfl) (fun _ _ _ h => h) (Or.inl ⟨by rfl, ?_⟩) (by assumption) ?_
          rotate_left
          · intro w' hSw
            (try dsimp only at hSw)
            obtain ⟨q0, q1, q2, q3, q4, q5, q6, q7, q8, q9, q10, q11⟩ := hSw
            go_simp
            try with_reducible rfl
          (try simp only [List.getElem_toArray, List.getElem_cons_zero, List.getElem_cons_succ, Act.put, List.setIfInBounds_toArray, List.set_cons_zero, List.set_cons_succ])
          refine wpAnyH_take (i := 11) (v := ?_) rfl (by kernel_rfl) (by kernel_rfl) (by kernel_rfl) (fun _ _ _ h => h) (Or.inl ⟨by rfl, ?_⟩) (by assumption) ?_
          rotate_left
          · intro w' hSw
            (try dsimp only at hSw)
            obtain ⟨q0, q1, q2, q3, q4, q5, q6, q7, q8, q9, q10, q11⟩ := hSw
            go_simp
            try with_reducible rfl
          (try simp only [List.getElem_toArray, List.getElem_cons_zero, List.getElem_cons_succ, Act.put, List.setIfInBounds_toArray, List.set_cons_zero, List.set_cons_succ])
          refine wpAnyH_take (i := 12) (v := ?_) rfl (by kernel_rfl) (by kernel_rfl) (by kernel_rfl) (fun _ _ _ h => h) (Or.inl ⟨by rfl, ?_⟩) (by assumption) ?_
          rotate_left
          · intro w' hSw
            (try dsimp only at hSw)
            obtain ⟨q0, q1, q2, q3, q4, q5, q6, q7, q8, q9, q10, q11⟩ := hSw
            go_simp
            try with_reducible rfl
          (try simp only [List.getElem_toArray, List.getElem_cons_zero, List.getElem_cons_succ, Act.put, List.setIfInBounds_toArray, List.set_cons_zero, List.set_cons_succ])
          refine wpAnyH_take (i := 13) (v := ?_) rfl (by kernel_rfl) (by kernel_rfl) (by kernel_rfl) (fun _ _ _ h => h) (Or.inl ⟨by rfl, ?_⟩) (by assumption) ?_
          rotate_left
          · intro w' hSw
            (try dsimp only at hSw)
            obtain ⟨q0, q1, q2, q3, q4, q5, q6, q7, q8, q9, q10, q11⟩ := hSw
            go_simp
            try with_reducible rfl
          (try simp only [List.getElem_toArray, List.getElem_cons_zero, List.getElem_cons_succ, Act.put, List.setIfInBounds_toArray, List.set_cons_zero, List.set_cons_succ])
          refine wpAnyH_take (i := 14) (v := ?_) rfl (by kernel_rfl) (by kernel_rfl) (by kernel_rfl) (fun _ _ _ h => h) (Or.inl ⟨by rfl, ?_⟩) (by assumption) ?_
          rotate_left
          · intro w' hSw
            (try dsimp only at hSw)
            obtain ⟨q0, q1, q2, q3, q4, q5, q6, q7, q8, q9, q10, q11⟩ := hSw
            go_simp
            try with_reducible rfl
          (try simp only [List.getElem_toArray, List.getElem_cons_zero, List.getElem_cons_succ, Act.put, List.setIfInBounds_toArray, List.set_cons_zero, List.set_cons_succ])
          refine wpAnyH_take (i := 15) (v := ?_) rfl (by kernel_rfl) (by kernel_rfl) (by kernel_rfl) (fun _ _ _ h => h) (Or.inl ⟨by rfl, ?_⟩) (by assumption) ?_
          rotate_left
          · intro w' hSw
            (try dsimp only at hSw)
            obtain ⟨q0, q1, q2, q3, q4, q5, q6, q7, q8, q9, q10, q11⟩ := hSw
            go_simp
            try with_reducible rfl
          (try simp only [List.getElem_toArray, List.getElem_cons_zero, List.getElem_cons_succ, Act.put, List.setIfInBounds_toArray, List.set_cons_zero, List.set_cons_succ])
          refine wpAnyH_take (i := 16) (v := ?_) rfl (by kernel_rfl) (by kernel_rfl) (by kernel_rfl) (fun _ _ _ h => h) (Or.inl ⟨by rfl, ?_⟩) (by assumption) ?_
          rotate_left
          · intro w' hSw
            (try dsimp only at hSw)
            obtain ⟨q0, q1, q2, q3, q4, q5, q6, q7, q8, q9, q10, q11⟩ := hSw
            go_simp
            try with_reducible rfl
          (try simp only [List.getElem_toArray, List.getElem_cons_zero, List.getElem_cons_succ, Act.put, List.setIfInBounds_toArray, List.set_cons_zero, List.set_cons_succ])
          refine wpAnyH_take (i := 17) (v := ?_) rfl (by kernel_rfl) (by kernel_rfl) (by kernel_rfl) (fun _ _ _ h => h) (Or.inl ⟨by rfl, ?_⟩) (by assumption) ?_
          rotate_left
          · intro w' hSw
            (try dsimp only at hSw)
            obtain ⟨q0, q1, q2, q3, q4, q5, q6, q7, q8, q9, q10, q11⟩ := hSw
            go_simp
            try with_reducible rfl
          (try simp only [List.getElem_toArray, List.getElem_cons_zero, List.getElem_cons_succ, Act.put, List.setIfInBounds_toArray, List.set_cons_zero, List.set_cons_succ])
          refine wpAnyH_take (i := 18) (v := ?_) rfl (by kernel_rfl) (by kernel_rfl) (by kernel_rfl) (fun _ _ _ h => h) (Or.inl ⟨by rfl, ?_⟩) (by assumption) ?_
          rotate_left
          · intro w' hSw
            (try dsimp only at hSw)
            obtain ⟨q0, q1, q2, q3, q4, q5, q6, q7, q8, q9, q10, q11⟩ := hSw
            go_simp
            try with_reducible rfl
          (try simp only [List.getElem_toArray, List.getElem_cons_zero, List.getElem_cons_succ, Act.put, List.setIfInBounds_toArray, List.set_cons_zero, List.set_cons_succ])
          refine wpAnyH_take (i := 19) (v := ?_) rfl (by kernel_rfl) (by kernel_rfl) (by kernel_rfl) (fun _ _ _ h => h) (Or.inl ⟨by rfl, ?_⟩) (by assumption) ?_
          rotate_left
          · intro w' hSw
            (try dsimp only at hSw)
            obtain ⟨q0, q1, q2, q3, q4, q5, q6, q7, q8, q9, q10, q11⟩ := hSw
            go_simp
            try with_reducible rfl
          (try simp only [List.getElem_toArray, List.getElem_cons_zero, List.getElem_cons_succ, Act.put, List.setIfInBounds_toArray, List.set_cons_zero, List.set_cons_succ])
          refine wpAnyH_take (i := 20) (v := ?_) rfl (by kernel_rfl) (by kernel_rfl) (by kernel_rfl) (fun _ _ _ h => h) (Or.inl ⟨by rfl, ?_⟩) (by assumption) ?_
          rotate_left
          · intro w' hSw
            (try dsimp only at hSw)
            obtain ⟨q0, q1, q2, q3, q4, q5, q6, q7, q8, q9, q10, q11⟩ := hSw
            go_simp
            try with_reducible rfl
          (try simp only [List.getElem_toArray, List.getElem_cons_zero, List.getElem_cons_succ, Act.put, List.setIfInBounds_toArray, List.set_cons_zero, List.set_cons_succ])
          refine wpAnyH_take (i := 21) (v := ?_) rfl (by kernel_rfl) (by kernel_rfl) (by kernel_rfl) (fun _ _ _ h => h) (Or.inl ⟨by rfl, ?_⟩) (by assumption) ?_
          rotate_left
          · intro w' hSw
            (try dsimp only at hSw)
            obtain ⟨q0, q1, q2, q3, q4, q5, q6, q7, q8, q9, q10, q11⟩ := hSw
            go_simp
            try with_reducible rfl
          (try simp only [List.getElem_toArray, List.getElem_cons_zero, List.getElem_cons_succ, Act.put, List.setIfInBounds_toArray, List.set_cons_zero, List.set_cons_succ])
          refine wpAnyH_take (i := 22) (v := ?_) rfl (by kernel_rfl) (by kernel_rfl) (by kernel_rfl) (fun _ _ _ h => h) (Or.inl ⟨by rfl, ?_⟩) (by assumption) ?_
          rotate_left
          · intro w' hSw
            (try dsimp only at hSw)
            obtain ⟨q0, q1, q2, q3, q4, q5, q6, q7, q8, q9, q10, q11⟩ := hSw
            go_simp
            try with_reducible rfl
          (try simp only [List.getElem_toArray, List.getElem_cons_zero, List.getElem_cons_succ, Act.put, List.setIfInBounds_toArray, List.set_cons_zero, List.set_cons_succ])
          refine wpAnyH_take (i := 23) (v := ?_) rfl (by kernel_rfl) (by kernel_rfl) (by kernel_rfl) (fun _ _ _ h => h) (Or.inl ⟨by rfl, ?_⟩) (by assumption) ?_
          rotate_left
          · intro w' hSw
            (try dsimp only at hSw)
            obtain ⟨q0, q1, q2, q3, q4, q5, q6, q7, q8, q9, q10, q11⟩ := hSw
            go_simp
            try with_reducible rfl
          (try simp only [List.getElem_toArray, List.getElem_cons_zero, List.getElem_cons_succ, Act.put, List.setIfInBounds_toArray, List.set_cons_zero, List.set_cons_succ])
          refine wpAnyH_take (i := 24) (v := ?_) rfl (by kernel_rfl) (by kernel_rfl) (by kernel_rfl) (fun _ _ _ h => h) (Or.inl ⟨by rfl, ?_⟩) (by assumption) ?_
          rotate_left
          · intro w' hSw
            (try dsimp only at hSw)
            obtain ⟨q0, q1, q2, q3, q4, q5, q6, q7, q8, q9, q10, q11⟩ := hSw
            go_simp
            try with_reducible rfl
          (try simp only [List.getElem_toArray, List.getElem_cons_zero, List.getElem_cons_succ, Act.put, List.setIfInBounds_toArray, List.set_cons_zero, List.set_cons_succ])
          refine wpAnyH_take (i := 25) (v := ?_) rfl (by kernel_rfl) (by kernel_rfl) (by kernel_rfl) (fun _ _ _ h => h) (Or.inl ⟨by rfl, ?_⟩) (by assumption) ?_
          rotate_left
          · intro w' hSw
            (try dsimp only at hSw)
            obtain ⟨q0, q1, q2, q3, q4, q5, q6, q7, q8, q9, q10, q11⟩ := hSw
            go_simp
            try with_reducible rfl
          (try simp only [List.getElem_toArray, List.getElem_cons_zero, List.getElem_cons_succ, Act.put, List.setIfInBounds_toArray, List.set_cons_zero, List.set_cons_succ])
          refine wpAnyH_take (i := 26) (v := ?_) rfl (by kernel_rfl) (by kernel_rfl) (by kernel_rfl) (fun _ _ _ h => h) (Or.inl ⟨by rfl, ?_⟩) (by assumption) ?_
          rotate_left
          · intro w' hSw
            (try dsimp only at hSw)
            obtain ⟨q0, q1, q2, q3, q4, q5, q6, q7, q8, q9, q10, q11⟩ := hSw
            go_simp
            try with_reducible rfl
          (try simp only [List.getElem_toArray, List.getElem_cons_zero, List.getElem_cons_succ, Act.put, List.setIfInBounds_toArray, List.set_cons_zero, List.set_cons_succ])
          refine wpAnyH_take (i := 27) (v := ?_) rfl (by kernel_rfl) (by kernel_rfl) (by kernel_rfl) (fun _ _ _ h => h) (Or.inl ⟨by rfl, ?_⟩) (by assumption) ?_
          rotate_left
          · intro w' hSw
            (try dsimp only at hSw)
            obtain ⟨q0, q1, q2, q3, q4, q5, q6, q7, q8, q9, q10, q11⟩ := hSw
            go_simp
            try with_reducible rfl
          (try simp only [List.getElem_toArray, List.getElem_cons_zero, List.getElem_cons_succ, Act.put, List.setIfInBounds_toArray, List.set_cons_zero, List.set_cons_succ])
          refine wpAnyH_ready (rs := [28]) (by kernel_rfl) (by simp) ?_
          refine AllReadyH.cons rfl (fun K hK => ?_) AllReadyH.nil
          go_simp
          refine (cmp_l zT zS kT_.out kS_.out HCM.out).mono ?_
          rintro e w_8_4 ⟨rfl, hb_8_4⟩
          replace b0 := b0.below hb_8_4 b0.lt
          replace b1 := b1.below hb_8_4 b1.lt
          replace b4 := b4.below hb_8_4 b4.lt
          replace b5 := b5.below hb_8_4 b5.lt
          replace b8 := b8.below hb_8_4 b8.lt
          replace b9 := b9.below hb_8_4 b9.lt
          replace zp := zp.below hb_8_4
          replace zq := zq.below hb_8_4
          replace zQ := zQ.below hb_8_4
          replace zR := zR.below hb_8_4
          replace zS := zS.below hb_8_4
          replace zT := zT.below hb_8_4
          have ch_8_4 := ch_8_3.trans (hb_8_4.mono ch_8_3.size)
          refine hK.out _ _ (cellsD12 b0 b1 b4 b5 b8 b9) (fun hH4 => ?_)
          clear hK K ch_8_3 hb_8_4 hH
          have hH := hH4
          clear hH4
          (try simp only [List.getElem_toArray, List.getElem_cons_zero, List.getElem_cons_succ, Act.put, List.setIfInBounds_toArray, List.set_cons_zero, List.set_cons_succ])
          refine wpAnyH_take (i := 29) (v := ?_) rfl (by kernel_rfl) (by kernel_rfl) (by kernel_rfl) (fun _ _ _ h => h) (Or.inl ⟨by rfl, ?_⟩) (by assumption) ?_
          rotate_left
          · intro w' hSw
            (try dsimp only at hSw)
            obtain ⟨q0, q1, q2, q3, q4, q5, q6, q7, q8, q9, q10, q11⟩ := hSw
            go_simp
            try with_reducible rfl
          (try simp only [List.getElem_toArray, List.getElem_cons_zero, List.getElem_cons_succ, Act.put, List.setIfInBounds_toArray, List.set_cons_zero, List.set_cons_succ])
          refine wpAnyH_take (i := 30) (v := ?_) rfl (by kernel_rfl) (by kernel_rfl) (by kernel_rfl) (fun _ _ _ h => h) (Or.inl ⟨by rfl, ?_⟩) (by assumption) ?_
          rotate_left
          · intro w' hSw
            (try dsimp only at hSw)
            obtain ⟨q0, q1, q2, q3, q4, q5, q6, q7, q8, q9, q10, q11⟩ := hSw
            go_simp
            try with_reducible rfl
          (try simp only [List.getElem_toArray, List.getElem_cons_zero, List.getElem_cons_succ, Act.put, List.setIfInBounds_toArray, List.set_cons_zero, List.set_cons_succ])
          refine wpAnyH_done (by kernel_rfl) ?_ _
          clear hH
          have ch7 := ch_8_4
          clear ch_8_4
          go_wp2
          go_meet
          exact ⟨rfl, ch7⟩
    case rest =>
      obtain ⟨rfl, hcb9⟩ := hcut
      have ch7 := ch6.trans (hcb9.mono ch6.size)
      replace b0 := b0.below hcb9 b0.lt
      replace b1 := b1.below hcb9 b1.lt
      replace b4 := b4.below hcb9 b4.lt
      replace b5 := b5.below hcb9 b5.lt
      replace b8 := b8.below hcb9 b8.lt
      replace b9 := b9.below hcb9 b9.lt
      replace zp := zp.below hcb9
      replace zq := zq.below hcb9
      replace zQ := zQ.below hcb9
      replace zR := zR.below hcb9
      replace zS := zS.below hcb9
      replace zT := zT.below hcb9
      clear zS zT
      clear b8 b9
      have HDV2 : Hid (∀ w va vb, WhZ w va (p + q) → WhZ w vb q → Calls Try.prog 29 #[va, vb] w fun e w' => ∃ (bS : Bool) (SA : Option Addr) (nS cS : Nat) (bT : Bool) (TA : Option Addr) (nT cT : Nat), e = .returned (.tuple #[.agg #[.bool bS, .slice SA nS cS], .agg #[.bool bT, .slice TA nT cT], .int .i64 0]) ∧ WhZ w' (.agg #[.bool bS, .slice SA nS cS]) (Q + 1) ∧ WhZ w' (.agg #[.bool bT, .slice TA nT cT]) R ∧ Below w.heap.size w w') := fun w va vb h1 h2 => by
        have := divmod_zz h1 h2 ((lzp_.out.add lzq_.out).mono (by omega)) kzq_.out HQ0.out
        have hu := (dmod_qr (p + q) q HQ0.out).unique (show DMod (p + q) q (Q + 1) R from ⟨by have := HDM.out.1; rw [Int.add_mul]; omega, HDM.out.2⟩)
        rw [hu.1, hu.2] at this
        refine this.mono ?_
        rintro e w1 ⟨vq, vr, rfl, h3, h4, h5⟩
        obtain ⟨A1, c1, rfl, _⟩ := id h3
        obtain ⟨A2, c2, rfl, _⟩ := id h4
        exact ⟨_, _, _, _, _, _, _, _, rfl, h3, h4, h5⟩
      have kB_ : Hid (Lz 1024 (p + q)) := (lzp_.out.add lzq_.out).mono (by omega)
      have c0b0 := (b0.cell 0).trans (b := some (Value.bool x)) rfl
      have c1b0 := (b0.cell 1).trans (b := some (Value.slice A na ca)) rfl
      have c0b1 := (b1.cell 0).trans (b := some (Value.bool y)) rfl
      have c1b1 := (b1.cell 1).trans (b := some (Value.slice B nb cb)) rfl
      have c0b4 := (b4.cell 0).trans (b := some (Value.bool qs)) rfl
      have c1b4 := (b4.cell 1).trans (b := some (Value.slice QA nQ cQ)) rfl
      have c0b5 := (b5.cell 0).trans (b := some (Value.bool rs)) rfl
      have c1b5 := (b5.cell 1).trans (b := some (Value.slice RA nR cR)) rfl
      go_upto_region 11 with fail
      clear c0b0 c1b0 c0b1 c1b1 c0b4 c1b4 c0b5 c1b5
      go_cut [10, 11, 12] from 81 to 88 (fun s10 s11 s12 wx => s12 = .int .i64 0 ∧ TwoZ wc wx s10 s11 (Q + 1) R)
      case first =>
        clear zQ zR b4 b5 ch7
        have lt_b0 := b0.lt
        have lt_b1 := b1.lt
        replace b0 := b0.drew
        replace b1 := b1.drew
        replace zp := whz_drew zp
        replace zq := whz_drew zq
        have hC : Below wc.heap.size wc wc.drew := (Below.refl _ _).drew
        refine wp_region_held_drew (S := fun w' => w'.cell? ⟨w.heap.size, 0, none⟩ = some (.bool x) ∧ w'.cell? ⟨w.heap.size, 1, none⟩ = some (.slice A na ca) ∧ w'.cell? ⟨(w.heap.size + 1), 0, none⟩ = some (.bool y) ∧ w'.cell? ⟨(w.heap.size + 1), 1, none⟩ = some (.slice B nb cb)) (by kernel_rfl) (cellsD4 b0 b1) (fun hH => ?_)
        obtain ⟨x0, hx0⟩ : ∃ x, wc.drew = x := ⟨_, rfl⟩
        rw [hx0] at hH hC b0 b1 zp zq ⊢
        clear hx0
        refine wpAnyH_take (i := 0) (v := ?_) rfl (by kernel_rfl) (by kernel_rfl) (by kernel_rfl) (fun _ _ _ h => h) (Or.inl ⟨by rfl, ?_⟩) (by assumption) ?_
        rotate_left
        · intro w' hSw
          (try dsimp only at hSw)
          obtain ⟨q0, q1, q2, q3⟩ := hSw
          go_simp
          try with_reducible rfl
        (try simp only [List.getElem_toArray, List.getElem_cons_zero, List.getElem_cons_succ, Act.put, List.setIfInBounds_toArray, List.set_cons_zero, List.set_cons_succ])
        refine wpAnyH_take (i := 1) (v := ?_) rfl (by kernel_rfl) (by kernel_rfl) (by kernel_rfl) (fun _ _ _ h => h) (Or.inl ⟨by rfl, ?_⟩) (by assumption) ?_
        rotate_left
        · intro w' hSw
          (try dsimp only at hSw)
          obtain ⟨q0, q1, q2, q3⟩ := hSw
          go_simp
          try with_reducible rfl
        (try simp only [List.getElem_toArray, List.getElem_cons_zero, List.getElem_cons_succ, Act.put, List.setIfInBounds_toArray, List.set_cons_zero, List.set_cons_succ])
        refine wpAnyH_take (i := 3) (v := ?_) rfl (by kernel_rfl) (by kernel_rfl) (by kernel_rfl) (fun _ _ _ h => h) (Or.inl ⟨by rfl, ?_⟩) (by assumption) ?_
        rotate_left
        · intro w' hSw
          (try dsimp only at hSw)
          obtain ⟨q0, q1, q2, q3⟩ := hSw
          go_simp
          try with_reducible rfl
        (try simp only [List.getElem_toArray, List.getElem_cons_zero, List.getElem_cons_succ, Act.put, List.setIfInBounds_toArray, List.set_cons_zero, List.set_cons_succ])
        refine wpAnyH_ready (rs := [2, 9, 10]) (by kernel_rfl) (by simp) ?_
        refine AllReadyH.cons rfl (fun K hK => ?_) ?_
        · skip
          go_simp
          refine (sumv zp zq kzp_.out kzq_.out kB_.out).mono ?_
          rintro e x9 ⟨vB, rfl, zB, hb9⟩
          replace b0 := b0.below hb9 b0.lt
          replace b1 := b1.below hb9 b1.lt
          replace zp := zp.below hb9
          replace zq := zq.below hb9
          replace hC := hC.trans (hb9.mono hC.size)
          clear hb9
          clear hH
          refine hK.out _ _ (cellsD4 b0 b1) (fun hH => ?_)
          clear hK K
          (try simp only [List.getElem_toArray, List.getElem_cons_zero, List.getElem_cons_succ, Act.put, List.setIfInBounds_toArray, List.set_cons_zero, List.set_cons_succ])
          refine wpAnyH_ready (rs := [4, 9, 10]) (by kernel_rfl) (by simp) ?_
          refine AllReadyH.cons rfl (fun K hK => ?_) ?_
          · skip
            go_simp
            refine (HDV2.out _ _ _ zB zq).mono ?_
            rintro e x10 ⟨bS, SA, nS, cS, bT, TA, nT, cT, rfl, zS, zT, hb10⟩
            replace b0 := b0.below hb10 b0.lt
            replace b1 := b1.below hb10 b1.lt
            replace zp := zp.below hb10
            replace zq := zq.below hb10
            replace zB := zB.below hb10
            replace hC := hC.trans (hb10.mono hC.size)
            clear hb10
            clear hH
            refine hK.out _ _ (cellsD4 b0 b1) (fun hH => ?_)
            clear hK K
            (try simp only [List.getElem_toArray, List.getElem_cons_zero, List.getElem_cons_succ, Act.put, List.setIfInBounds_toArray, List.set_cons_zero, List.set_cons_succ])
            refine wpAnyH_take (i := 5) (v := ?_) rfl (by kernel_rfl) (by kernel_rfl) (by kernel_rfl) (fun _ _ _ h => h) (Or.inl ⟨by rfl, ?_⟩) (by assumption) ?_
            rotate_left
            · intro w' hSw
              (try dsimp only at hSw)
              obtain ⟨q0, q1, q2, q3⟩ := hSw
              go_simp
              try with_reducible rfl
            (try simp only [List.getElem_toArray, List.getElem_cons_zero, List.getElem_cons_succ, Act.put, List.setIfInBounds_toArray, List.set_cons_zero, List.set_cons_succ])
            refine wpAnyH_take (i := 6) (v := ?_) rfl (by kernel_rfl) (by kernel_rfl) (by kernel_rfl) (fun _ _ _ h => h) (Or.inl ⟨by rfl, ?_⟩) (by assumption) ?_
            rotate_left
            · intro w' hSw
              (try dsimp only at hSw)
              obtain ⟨q0, q1, q2, q3⟩ := hSw
              go_simp
              try with_reducible rfl
            (try simp only [List.getElem_toArray, List.getElem_cons_zero, List.getElem_cons_succ, Act.put, List.setIfInBounds_toArray, List.set_cons_zero, List.set_cons_succ])
            refine wpAnyH_take (i := 7) (v := ?_) rfl (by kernel_rfl) (by kernel_rfl) (by kernel_rfl) (fun _ _ _ h => h) (Or.inl ⟨by rfl, ?_⟩) (by assumption) ?_
            rotate_left
            · intro w' hSw
              (try dsimp only at hSw)
              obtain ⟨q0, q1, q2, q3⟩ := hSw
              go_simp
              try with_reducible rfl
            (try simp only [List.getElem_toArray, List.getElem_cons_zero, List.getElem_cons_succ, Act.put, List.setIfInBounds_toArray, List.set_cons_zero, List.set_cons_succ])
            refine wpAnyH_take (i := 8) (v := ?_) rfl (by kernel_rfl) (by kernel_rfl) (by kernel_rfl) (fun _ _ _ h => h) (Or.inl ⟨by rfl, ?_⟩) (by assumption) ?_
            rotate_left
            · intro w' hSw
              (try dsimp only at hSw)
              obtain ⟨q0, q1, q2, q3⟩ := hSw
              go_simp
              try with_reducible rfl
            (try simp only [List.getElem_toArray, List.getElem_cons_zero, List.getElem_cons_succ, Act.put, List.setIfInBounds_toArray, List.set_cons_zero, List.set_cons_succ])
            refine wpAnyH_ready (rs := [9, 10]) (by kernel_rfl) (by simp) ?_
            refine AllReadyH.cons rfl (fun K hK => ?_) ?_
            · skip
              go_simp
              have n9 := Blk.new x10 26 #[.bool false, .slice none 0 0]
              have hb11 : Below x10.heap.size x10 (x10.alloc (.cells #[.bool false, .slice none 0 0] 26)) := (Below.refl _ _).alloc (Nat.le_refl _) _
              obtain ⟨x11, hx11⟩ : ∃ x, x10.alloc (.cells #[.bool false, .slice none 0 0] 26) = x := ⟨_, rfl⟩
              obtain ⟨g9, hg9⟩ : ∃ g, x10.heap.size = g := ⟨_, rfl⟩
              have hs9 : wc.heap.size ≤ g9 := by rw [← hg9]; exact hC.size
              replace b0 := b0.below hb11 b0.lt
              replace b1 := b1.below hb11 b1.lt
              replace zp := zp.below hb11
              replace zq := zq.below hb11
              replace zB := zB.below hb11
              replace zS := zS.below hb11
              replace zT := zT.below hb11
              replace hC := hC.trans (hb11.mono hC.size)
              clear hb11
              rw [hx11] at n9 hC b0 b1 zp zq zB zS zT ⊢
              rw [hg9] at n9 ⊢
              clear hx11 hg9
              clear hH
              refine hK.out _ _ (cellsD4 b0 b1) (fun hH => ?_)
              clear hK K
              (try simp only [List.getElem_toArray, List.getElem_cons_zero, List.getElem_cons_succ, Act.put, List.setIfInBounds_toArray, List.set_cons_zero, List.set_cons_succ])
              refine wpAnyH_ready (rs := [10]) (by kernel_rfl) (by simp) ?_
              refine AllReadyH.cons rfl (fun K hK => ?_) ?_
              · skip
                go_simp
                have n10 := Blk.new x11 26 #[.bool false, .slice none 0 0]
                have hb12 : Below x11.heap.size x11 (x11.alloc (.cells #[.bool false, .slice none 0 0] 26)) := (Below.refl _ _).alloc (Nat.le_refl _) _
                obtain ⟨x12, hx12⟩ : ∃ x, x11.alloc (.cells #[.bool false, .slice none 0 0] 26) = x := ⟨_, rfl⟩
                obtain ⟨g10, hg10⟩ : ∃ g, x11.heap.size = g := ⟨_, rfl⟩
                have hs10 : wc.heap.size ≤ g10 := by rw [← hg10]; exact hC.size
                have ne9_10 : g9 ≠ g10 := by have := n9.lt; omega
                replace b0 := b0.below hb12 b0.lt
                replace b1 := b1.below hb12 b1.lt
                replace n9 := n9.below hb12 n9.lt
                replace zp := zp.below hb12
                replace zq := zq.below hb12
                replace zB := zB.below hb12
                replace zS := zS.below hb12
                replace zT := zT.below hb12
                replace hC := hC.trans (hb12.mono hC.size)
                clear hb12
                rw [hx12] at n10 hC b0 b1 n9 zp zq zB zS zT ⊢
                rw [hg10] at n10 ⊢
                clear hx12 hg10
                clear hH
                refine hK.out _ _ (cellsD4 b0 b1) (fun hH => ?_)
                clear hK K
                (try simp only [List.getElem_toArray, List.getElem_cons_zero, List.getElem_cons_succ, Act.put, List.setIfInBounds_toArray, List.set_cons_zero, List.set_cons_succ])
                refine wpAnyH_ready (rs := [11]) (by kernel_rfl) (by simp) ?_
                refine AllReadyH.cons rfl (fun K hK => ?_) ?_
                · skip
                  have p013 := (n9.cell 0).trans (b := some (Value.bool false)) rfl
                  have p113 := (n9.cell 1).trans (b := some (Value.slice none 0 0)) rfl
                  have p213 := n9.frozen 0
                  have p313 := n9.frozen 1
                  have p413 := n9.lt
                  go_simp
                  clear p013 p113 p213 p313 p413
                  replace zp := whz_store2 zp n9 bS SA nS cS
                  replace zq := whz_store2 zq n9 bS SA nS cS
                  replace zB := whz_store2 zB n9 bS SA nS cS
                  replace zS := whz_store2 zS n9 bS SA nS cS
                  replace zT := whz_store2 zT n9 bS SA nS cS
                  replace b0 := (b0.far (p := ⟨g9, 0, none⟩) (show w.heap.size ≠ g9 by omega) (.bool bS)).far (p := ⟨g9, 1, none⟩) (show w.heap.size ≠ g9 by omega) (.slice SA nS cS)
                  replace b1 := (b1.far (p := ⟨g9, 0, none⟩) (show (w.heap.size + 1) ≠ g9 by omega) (.bool bS)).far (p := ⟨g9, 1, none⟩) (show (w.heap.size + 1) ≠ g9 by omega) (.slice SA nS cS)
                  replace n10 := (n10.far (p := ⟨g9, 0, none⟩) (show g10 ≠ g9 by omega) (.bool bS)).far (p := ⟨g9, 1, none⟩) (show g10 ≠ g9 by omega) (.slice SA nS cS)
                  replace n9 := (n9.set_ 0 (.bool bS)).set_ 1 (.slice SA nS cS)
                  replace hC := (hC.setCell (p := ⟨g9, 0, none⟩) hs9 (.bool bS)).setCell (p := ⟨g9, 1, none⟩) hs9 (.slice SA nS cS)
                  obtain ⟨x13, hx13⟩ : ∃ x, (x12.setCell ⟨g9, 0, none⟩ (.bool bS)).setCell ⟨g9, 1, none⟩ (.slice SA nS cS) = x := ⟨_, rfl⟩
                  rw [hx13] at hC b0 b1 n9 n10 zp zq zB zS zT ⊢
                  clear hx13
                  clear hH
                  refine hK.out _ _ (cellsD4 b0 b1) (fun hH => ?_)
                  clear hK K
                  (try simp only [List.getElem_toArray, List.getElem_cons_zero, List.getElem_cons_succ, Act.put, List.setIfInBounds_toArray, List.set_cons_zero, List.set_cons_succ])
                  refine wpAnyH_ready (rs := [12]) (by kernel_rfl) (by simp) ?_
                  refine AllReadyH.cons rfl (fun K hK => ?_) ?_
                  · skip
                    have p014 := (n10.cell 0).trans (b := some (Value.bool false)) rfl
                    have p114 := (n10.cell 1).trans (b := some (Value.slice none 0 0)) rfl
                    have p214 := n10.frozen 0
                    have p314 := n10.frozen 1
                    have p414 := n10.lt
                    go_simp
                    clear p014 p114 p214 p314 p414
                    replace zp := whz_store2 zp n10 bT TA nT cT
                    replace zq := whz_store2 zq n10 bT TA nT cT
                    replace zB := whz_store2 zB n10 bT TA nT cT
                    replace zS := whz_store2 zS n10 bT TA nT cT
                    replace zT := whz_store2 zT n10 bT TA nT cT
                    replace b0 := (b0.far (p := ⟨g10, 0, none⟩) (show w.heap.size ≠ g10 by omega) (.bool bT)).far (p := ⟨g10, 1, none⟩) (show w.heap.size ≠ g10 by omega) (.slice TA nT cT)
                    replace b1 := (b1.far (p := ⟨g10, 0, none⟩) (show (w.heap.size + 1) ≠ g10 by omega) (.bool bT)).far (p := ⟨g10, 1, none⟩) (show (w.heap.size + 1) ≠ g10 by omega) (.slice TA nT cT)
                    replace n9 := (n9.far (p := ⟨g10, 0, none⟩) (show g9 ≠ g10 by omega) (.bool bT)).far (p := ⟨g10, 1, none⟩) (show g9 ≠ g10 by omega) (.slice TA nT cT)
                    replace n10 := (n10.set_ 0 (.bool bT)).set_ 1 (.slice TA nT cT)
                    replace hC := (hC.setCell (p := ⟨g10, 0, none⟩) hs10 (.bool bT)).setCell (p := ⟨g10, 1, none⟩) hs10 (.slice TA nT cT)
                    obtain ⟨x14, hx14⟩ : ∃ x, (x13.setCell ⟨g10, 0, none⟩ (.bool bT)).setCell ⟨g10, 1, none⟩ (.slice TA nT cT) = x := ⟨_, rfl⟩
                    rw [hx14] at hC b0 b1 n9 n10 zp zq zB zS zT ⊢
                    clear hx14
                    clear hH
                    refine hK.out _ _ (cellsD4 b0 b1) (fun hH => ?_)
                    clear hK K
                    (try simp only [List.getElem_toArray, List.getElem_cons_zero, List.getElem_cons_succ, Act.put, List.setIfInBounds_toArray, List.set_cons_zero, List.set_cons_succ])
                    refine wpAnyH_take (i := 13) (v := ?_) rfl (by kernel_rfl) (by kernel_rfl) (by kernel_rfl) (fun _ _ _ h => h) (Or.inl ⟨by rfl, ?_⟩) (by assumption) ?_
                    rotate_left
                    · intro w' hSw
                      (try dsimp only at hSw)
                      obtain ⟨q0, q1, q2, q3⟩ := hSw
                      go_simp
                      try with_reducible rfl
                    (try simp only [List.getElem_toArray, List.getElem_cons_zero, List.getElem_cons_succ, Act.put, List.setIfInBounds_toArray, List.set_cons_zero, List.set_cons_succ])
                    refine wpAnyH_done (by kernel_rfl) ?_ _
                    clear hH
                    go_wp2
                    go_meet
                    exact ⟨rfl, g9, g10, bS, SA, nS, cS, bT, TA, nT, cT, rfl, rfl, hs9, hs10, by omega, n9, n10, zS, zT, hC⟩
                  exact AllReadyH.nil
                exact AllReadyH.nil
              exact AllReadyH.nil
            refine AllReadyH.cons rfl (fun K hK => ?_) ?_
            · skip
              go_simp
              have n10 := Blk.new x10 26 #[.bool false, .slice none 0 0]
              have hb15 : Below x10.heap.size x10 (x10.alloc (.cells #[.bool false, .slice none 0 0] 26)) := (Below.refl _ _).alloc (Nat.le_refl _) _
              obtain ⟨x15, hx15⟩ : ∃ x, x10.alloc (.cells #[.bool false, .slice none 0 0] 26) = x := ⟨_, rfl⟩
              obtain ⟨g10, hg10⟩ : ∃ g, x10.heap.size = g := ⟨_, rfl⟩
              have hs10 : wc.heap.size ≤ g10 := by rw [← hg10]; exact hC.size
              replace b0 := b0.below hb15 b0.lt
              replace b1 := b1.below hb15 b1.lt
              replace zp := zp.below hb15
              replace zq := zq.below hb15
              replace zB := zB.below hb15
              replace zS := zS.below hb15
              replace zT := zT.below hb15
              replace hC := hC.trans (hb15.mono hC.size)
              clear hb15
              rw [hx15] at n10 hC b0 b1 zp zq zB zS zT ⊢
              rw [hg10] at n10 ⊢
              clear hx15 hg10
              clear hH
              refine hK.out _ _ (cellsD4 b0 b1) (fun hH => ?_)
              clear hK K
              (try simp only [List.getElem_toArray, List.getElem_cons_zero, List.getElem_cons_succ, Act.put, List.setIfInBounds_toArray, List.set_cons_zero, List.set_cons_succ])
              refine wpAnyH_ready (rs := [9]) (by kernel_rfl) (by simp) ?_
              refine AllReadyH.cons rfl (fun K hK => ?_) ?_
              · skip
                go_simp
                have n9 := Blk.new x15 26 #[.bool false, .slice none 0 0]
                have hb16 : Below x15.heap.size x15 (x15.alloc (.cells #[.bool false, .slice none 0 0] 26)) := (Below.refl _ _).alloc (Nat.le_refl _) _
                obtain ⟨x16, hx16⟩ : ∃ x, x15.alloc (.cells #[.bool false, .slice none 0 0] 26) = x := ⟨_, rfl⟩
                obtain ⟨g9, hg9⟩ : ∃ g, x15.heap.size = g := ⟨_, rfl⟩
                have hs9 : wc.heap.size ≤ g9 := by rw [← hg9]; exact hC.size
                have ne10_9 : g10 ≠ g9 := by have := n10.lt; omega
                replace b0 := b0.below hb16 b0.lt
                replace b1 := b1.below hb16 b1.lt
                replace n10 := n10.below hb16 n10.lt
                replace zp := zp.below hb16
                replace zq := zq.below hb16
                replace zB := zB.below hb16
                replace zS := zS.below hb16
                replace zT := zT.below hb16
                replace hC := hC.trans (hb16.mono hC.size)
                clear hb16
                rw [hx16] at n9 hC b0 b1 n10 zp zq zB zS zT ⊢
                rw [hg9] at n9 ⊢
                clear hx16 hg9
                clear hH
                refine hK.out _ _ (cellsD4 b0 b1) (fun hH => ?_)
                clear hK K
                (try simp only [List.getElem_toArray, List.getElem_cons_zero, List.getElem_cons_succ, Act.put, List.setIfInBounds_toArray, List.set_cons_zero, List.set_cons_succ])
                refine wpAnyH_ready (rs := [11]) (by kernel_rfl) (by simp) ?_
                refine AllReadyH.cons rfl (fun K hK => ?_) ?_
                · skip
                  have p017 := (n9.cell 0).trans (b := some (Value.bool false)) rfl
                  have p117 := (n9.cell 1).trans (b := some (Value.slice none 0 0)) rfl
                  have p217 := n9.frozen 0
                  have p317 := n9.frozen 1
                  have p417 := n9.lt
                  go_simp
                  clear p017 p117 p217 p317 p417
                  replace zp := whz_store2 zp n9 bS SA nS cS
                  replace zq := whz_store2 zq n9 bS SA nS cS
                  replace zB := whz_store2 zB n9 bS SA nS cS
                  replace zS := whz_store2 zS n9 bS SA nS cS
                  replace zT := whz_store2 zT n9 bS SA nS cS
                  replace b0 := (b0.far (p := ⟨g9, 0, none⟩) (show w.heap.size ≠ g9 by omega) (.bool bS)).far (p := ⟨g9, 1, none⟩) (show w.heap.size ≠ g9 by omega) (.slice SA nS cS)
                  replace b1 := (b1.far (p := ⟨g9, 0, none⟩) (show (w.heap.size + 1) ≠ g9 by omega) (.bool bS)).far (p := ⟨g9, 1, none⟩) (show (w.heap.size + 1) ≠ g9 by omega) (.slice SA nS cS)
                  replace n10 := (n10.far (p := ⟨g9, 0, none⟩) (show g10 ≠ g9 by omega) (.bool bS)).far (p := ⟨g9, 1, none⟩) (show g10 ≠ g9 by omega) (.slice SA nS cS)
                  replace n9 := (n9.set_ 0 (.bool bS)).set_ 1 (.slice SA nS cS)
                  replace hC := (hC.setCell (p := ⟨g9, 0, none⟩) hs9 (.bool bS)).setCell (p := ⟨g9, 1, none⟩) hs9 (.slice SA nS cS)
                  obtain ⟨x17, hx17⟩ : ∃ x, (x16.setCell ⟨g9, 0, none⟩ (.bool bS)).setCell ⟨g9, 1, none⟩ (.slice SA nS cS) = x := ⟨_, rfl⟩
                  rw [hx17] at hC b0 b1 n10 n9 zp zq zB zS zT ⊢
                  clear hx17
                  clear hH
                  refine hK.out _ _ (cellsD4 b0 b1) (fun hH => ?_)
                  clear hK K
                  (try simp only [List.getElem_toArray, List.getElem_cons_zero, List.getElem_cons_succ, Act.put, List.setIfInBounds_toArray, List.set_cons_zero, List.set_cons_succ])
                  refine wpAnyH_ready (rs := [12]) (by kernel_rfl) (by simp) ?_
                  refine AllReadyH.cons rfl (fun K hK => ?_) ?_
                  · skip
                    have p018 := (n10.cell 0).trans (b := some (Value.bool false)) rfl
                    have p118 := (n10.cell 1).trans (b := some (Value.slice none 0 0)) rfl
                    have p218 := n10.frozen 0
                    have p318 := n10.frozen 1
                    have p418 := n10.lt
                    go_simp
                    clear p018 p118 p218 p318 p418
                    replace zp := whz_store2 zp n10 bT TA nT cT
                    replace zq := whz_store2 zq n10 bT TA nT cT
                    replace zB := whz_store2 zB n10 bT TA nT cT
                    replace zS := whz_store2 zS n10 bT TA nT cT
                    replace zT := whz_store2 zT n10 bT TA nT cT
                    replace b0 := (b0.far (p := ⟨g10, 0, none⟩) (show w.heap.size ≠ g10 by omega) (.bool bT)).far (p := ⟨g10, 1, none⟩) (show w.heap.size ≠ g10 by omega) (.slice TA nT cT)
                    replace b1 := (b1.far (p := ⟨g10, 0, none⟩) (show (w.heap.size + 1) ≠ g10 by omega) (.bool bT)).far (p := ⟨g10, 1, none⟩) (show (w.heap.size + 1) ≠ g10 by omega) (.slice TA nT cT)
                    replace n9 := (n9.far (p := ⟨g10, 0, none⟩) (show g9 ≠ g10 by omega) (.bool bT)).far (p := ⟨g10, 1, none⟩) (show g9 ≠ g10 by omega) (.slice TA nT cT)
                    replace n10 := (n10.set_ 0 (.bool bT)).set_ 1 (.slice TA nT cT)
                    replace hC := (hC.setCell (p := ⟨g10, 0, none⟩) hs10 (.bool bT)).setCell (p := ⟨g10, 1, none⟩) hs10 (.slice TA nT cT)
                    obtain ⟨x18, hx18⟩ : ∃ x, (x17.setCell ⟨g10, 0, none⟩ (.bool bT)).setCell ⟨g10, 1, none⟩ (.slice TA nT cT) = x := ⟨_, rfl⟩
                    rw [hx18] at hC b0 b1 n10 n9 zp zq zB zS zT ⊢
                    clear hx18
                    clear hH
                    refine hK.out _ _ (cellsD4 b0 b1) (fun hH => ?_)
                    clear hK K
                    (try simp only [List.getElem_toArray, List.getElem_cons_zero, List.getElem_cons_succ, Act.put, List.setIfInBounds_toArray, List.set_cons_zero, List.set_cons_succ])
                    refine wpAnyH_take (i := 13) (v := ?_) rfl (by kernel_rfl) (by kernel_rfl) (by kernel_rfl) (fun _ _ _ h => h) (Or.inl ⟨by rfl, ?_⟩) (by assumption) ?_
                    rotate_left
                    · intro w' hSw
                      (try dsimp only at hSw)
                      obtain ⟨q0, q1, q2, q3⟩ := hSw
                      go_simp
                      try with_reducible rfl
                    (try simp only [List.getElem_toArray, List.getElem_cons_zero, List.getElem_cons_succ, Act.put, List.setIfInBounds_toArray, List.set_cons_zero, List.set_cons_succ])
                    refine wpAnyH_done (by kernel_rfl) ?_ _
                    clear hH
                    go_wp2
                    go_meet
                    exact ⟨rfl, g9, g10, bS, SA, nS, cS, bT, TA, nT, cT, rfl, rfl, hs9, hs10, by omega, n9, n10, zS, zT, hC⟩
                  exact AllReadyH.nil
                exact AllReadyH.nil
              exact AllReadyH.nil
            exact AllReadyH.nil
          refine AllReadyH.cons rfl (fun K hK => ?_) ?_
          · skip
            go_simp
            have n9 := Blk.new x9 26 #[.bool false, .slice none 0 0]
            have hb19 : Below x9.heap.size x9 (x9.alloc (.cells #[.bool false, .slice none 0 0] 26)) := (Below.refl _ _).alloc (Nat.le_refl _) _
            obtain ⟨x19, hx19⟩ : ∃ x, x9.alloc (.cells #[.bool false, .slice none 0 0] 26) = x := ⟨_, rfl⟩
            obtain ⟨g9, hg9⟩ : ∃ g, x9.heap.size = g := ⟨_, rfl⟩
            have hs9 : wc.heap.size ≤ g9 := by rw [← hg9]; exact hC.size
            replace b0 := b0.below hb19 b0.lt
            replace b1 := b1.below hb19 b1.lt
            replace zp := zp.below hb19
            replace zq := zq.below hb19
            replace zB := zB.below hb19
            replace hC := hC.trans (hb19.mono hC.size)
            clear hb19
            rw [hx19] at n9 hC b0 b1 zp zq zB ⊢
            rw [hg9] at n9 ⊢
            clear hx19 hg9
            clear hH
            refine hK.out _ _ (cellsD4 b0 b1) (fun hH => ?_)
            clear hK K
            (try simp only [List.getElem_toArray, List.getElem_cons_zero, List.getElem_cons_succ, Act.put, List.setIfInBounds_toArray, List.set_cons_zero, List.set_cons_succ])
            refine wpAnyH_ready (rs := [4, 10]) (by kernel_rfl) (by simp) ?_
            refine AllReadyH.cons rfl (fun K hK => ?_) ?_
            · skip
              go_simp
              refine (HDV2.out _ _ _ zB zq).mono ?_
              rintro e x20 ⟨bS, SA, nS, cS, bT, TA, nT, cT, rfl, zS, zT, hb20⟩
              replace b0 := b0.below hb20 b0.lt
              replace b1 := b1.below hb20 b1.lt
              replace n9 := n9.below hb20 n9.lt
              replace zp := zp.below hb20
              replace zq := zq.below hb20
              replace zB := zB.below hb20
              replace hC := hC.trans (hb20.mono hC.size)
              clear hb20
              clear hH
              refine hK.out _ _ (cellsD4 b0 b1) (fun hH => ?_)
              clear hK K
              (try simp only [List.getElem_toArray, List.getElem_cons_zero, List.getElem_cons_succ, Act.put, List.setIfInBounds_toArray, List.set_cons_zero, List.set_cons_succ])
              refine wpAnyH_take (i := 5) (v := ?_) rfl (by kernel_rfl) (by kernel_rfl) (by kernel_rfl) (fun _ _ _ h => h) (Or.inl ⟨by rfl, ?_⟩) (by assumption) ?_
              rotate_left
              · intro w' hSw
                (try dsimp only at hSw)
                obtain ⟨q0, q1, q2, q3⟩ := hSw
                go_simp
                try with_reducible rfl
              (try simp only [List.getElem_toArray, List.getElem_cons_zero, List.getElem_cons_succ, Act.put, List.setIfInBounds_toArray, List.set_cons_zero, List.set_cons_succ])
              refine wpAnyH_take (i := 6) (v := ?_) rfl (by kernel_rfl) (by kernel_rfl) (by kernel_rfl) (fun _ _ _ h => h) (Or.inl ⟨by rfl, ?_⟩) (by assumption) ?_
              rotate_left
              · intro w' hSw
                (try dsimp only at hSw)
                obtain ⟨q0, q1, q2, q3⟩ := hSw
                go_simp
                try with_reducible rfl
              (try simp only [List.getElem_toArray, List.getElem_cons_zero, List.getElem_cons_succ, Act.put, List.setIfInBounds_toArray, List.set_cons_zero, List.set_cons_succ])
              refine wpAnyH_take (i := 7) (v := ?_) rfl (by kernel_rfl) (by kernel_rfl) (by kernel_rfl) (fun _ _ _ h => h) (Or.inl ⟨by rfl, ?_⟩) (by assumption) ?_
              rotate_left
              · intro w' hSw
                (try dsimp only at hSw)
                obtain ⟨q0, q1, q2, q3⟩ := hSw
                go_simp
                try with_reducible rfl
              (try simp only [List.getElem_toArray, List.getElem_cons_zero, List.getElem_cons_succ, Act.put, List.setIfInBounds_toArray, List.set_cons_zero, List.set_cons_succ])
              refine wpAnyH_take (i := 8) (v := ?_) rfl (by kernel_rfl) (by kernel_rfl) (by kernel_rfl) (fun _ _ _ h => h) (Or.inl ⟨by rfl, ?_⟩) (by assumption) ?_
              rotate_left
              · intro w' hSw
                (try dsimp only at hSw)
                obtain ⟨q0, q1, q2, q3⟩ := hSw
                go_simp
                try with_reducible rfl
              (try simp only [List.getElem_toArray, List.getElem_cons_zero, List.getElem_cons_succ, Act.put, List.setIfInBounds_toArray, List.set_cons_zero, List.set_cons_succ])
              refine wpAnyH_ready (rs := [10]) (by kernel_rfl) (by simp) ?_
              refine AllReadyH.cons rfl (fun K hK => ?_) ?_
              · skip
                go_simp
                have n10 := Blk.new x20 26 #[.bool false, .slice none 0 0]
                have hb21 : Below x20.heap.size x20 (x20.alloc (.cells #[.bool false, .slice none 0 0] 26)) := (Below.refl _ _).alloc (Nat.le_refl _) _
                obtain ⟨x21, hx21⟩ : ∃ x, x20.alloc (.cells #[.bool false, .slice none 0 0] 26) = x := ⟨_, rfl⟩
                obtain ⟨g10, hg10⟩ : ∃ g, x20.heap.size = g := ⟨_, rfl⟩
                have hs10 : wc.heap.size ≤ g10 := by rw [← hg10]; exact hC.size
                have ne9_10 : g9 ≠ g10 := by have := n9.lt; omega
                replace b0 := b0.below hb21 b0.lt
                replace b1 := b1.below hb21 b1.lt
                replace n9 := n9.below hb21 n9.lt
                replace zp := zp.below hb21
                replace zq := zq.below hb21
                replace zB := zB.below hb21
                replace zS := zS.below hb21
                replace zT := zT.below hb21
                replace hC := hC.trans (hb21.mono hC.size)
                clear hb21
                rw [hx21] at n10 hC b0 b1 n9 zp zq zB zS zT ⊢
                rw [hg10] at n10 ⊢
                clear hx21 hg10
                clear hH
                refine hK.out _ _ (cellsD4 b0 b1) (fun hH => ?_)
                clear hK K
                (try simp only [List.getElem_toArray, List.getElem_cons_zero, List.getElem_cons_succ, Act.put, List.setIfInBounds_toArray, List.set_cons_zero, List.set_cons_succ])
                refine wpAnyH_ready (rs := [11]) (by kernel_rfl) (by simp) ?_
                refine AllReadyH.cons rfl (fun K hK => ?_) ?_
                · skip
                  have p022 := (n9.cell 0).trans (b := some (Value.bool false)) rfl
                  have p122 := (n9.cell 1).trans (b := some (Value.slice none 0 0)) rfl
                  have p222 := n9.frozen 0
                  have p322 := n9.frozen 1
                  have p422 := n9.lt
                  go_simp
                  clear p022 p122 p222 p322 p422
                  replace zp := whz_store2 zp n9 bS SA nS cS
                  replace zq := whz_store2 zq n9 bS SA nS cS
                  replace zB := whz_store2 zB n9 bS SA nS cS
                  replace zS := whz_store2 zS n9 bS SA nS cS
                  replace zT := whz_store2 zT n9 bS SA nS cS
                  replace b0 := (b0.far (p := ⟨g9, 0, none⟩) (show w.heap.size ≠ g9 by omega) (.bool bS)).far (p := ⟨g9, 1, none⟩) (show w.heap.size ≠ g9 by omega) (.slice SA nS cS)
                  replace b1 := (b1.far (p := ⟨g9, 0, none⟩) (show (w.heap.size + 1) ≠ g9 by omega) (.bool bS)).far (p := ⟨g9, 1, none⟩) (show (w.heap.size + 1) ≠ g9 by omega) (.slice SA nS cS)
                  replace n10 := (n10.far (p := ⟨g9, 0, none⟩) (show g10 ≠ g9 by omega) (.bool bS)).far (p := ⟨g9, 1, none⟩) (show g10 ≠ g9 by omega) (.slice SA nS cS)
                  replace n9 := (n9.set_ 0 (.bool bS)).set_ 1 (.slice SA nS cS)
                  replace hC := (hC.setCell (p := ⟨g9, 0, none⟩) hs9 (.bool bS)).setCell (p := ⟨g9, 1, none⟩) hs9 (.slice SA nS cS)
                  obtain ⟨x22, hx22⟩ : ∃ x, (x21.setCell ⟨g9, 0, none⟩ (.bool bS)).setCell ⟨g9, 1, none⟩ (.slice SA nS cS) = x := ⟨_, rfl⟩
                  rw [hx22] at hC b0 b1 n9 n10 zp zq zB zS zT ⊢
                  clear hx22
                  clear hH
                  refine hK.out _ _ (cellsD4 b0 b1) (fun hH => ?_)
                  clear hK K
                  (try simp only [List.getElem_toArray, List.getElem_cons_zero, List.getElem_cons_succ, Act.put, List.setIfInBounds_toArray, List.set_cons_zero, List.set_cons_succ])
                  refine wpAnyH_ready (rs := [12]) (by kernel_rfl) (by simp) ?_
                  refine AllReadyH.cons rfl (fun K hK => ?_) ?_
                  · skip
                    have p023 := (n10.cell 0).trans (b := some (Value.bool false)) rfl
                    have p123 := (n10.cell 1).trans (b := some (Value.slice none 0 0)) rfl
                    have p223 := n10.frozen 0
                    have p323 := n10.frozen 1
                    have p423 := n10.lt
                    go_simp
                    clear p023 p123 p223 p323 p423
                    replace zp := whz_store2 zp n10 bT TA nT cT
                    replace zq := whz_store2 zq n10 bT TA nT cT
                    replace zB := whz_store2 zB n10 bT TA nT cT
                    replace zS := whz_store2 zS n10 bT TA nT cT
                    replace zT := whz_store2 zT n10 bT TA nT cT
                    replace b0 := (b0.far (p := ⟨g10, 0, none⟩) (show w.heap.size ≠ g10 by omega) (.bool bT)).far (p := ⟨g10, 1, none⟩) (show w.heap.size ≠ g10 by omega) (.slice TA nT cT)
                    replace b1 := (b1.far (p := ⟨g10, 0, none⟩) (show (w.heap.size + 1) ≠ g10 by omega) (.bool bT)).far (p := ⟨g10, 1, none⟩) (show (w.heap.size + 1) ≠ g10 by omega) (.slice TA nT cT)
                    replace n9 := (n9.far (p := ⟨g10, 0, none⟩) (show g9 ≠ g10 by omega) (.bool bT)).far (p := ⟨g10, 1, none⟩) (show g9 ≠ g10 by omega) (.slice TA nT cT)
                    replace n10 := (n10.set_ 0 (.bool bT)).set_ 1 (.slice TA nT cT)
                    replace hC := (hC.setCell (p := ⟨g10, 0, none⟩) hs10 (.bool bT)).setCell (p := ⟨g10, 1, none⟩) hs10 (.slice TA nT cT)
                    obtain ⟨x23, hx23⟩ : ∃ x, (x22.setCell ⟨g10, 0, none⟩ (.bool bT)).setCell ⟨g10, 1, none⟩ (.slice TA nT cT) = x := ⟨_, rfl⟩
                    rw [hx23] at hC b0 b1 n9 n10 zp zq zB zS zT ⊢
                    clear hx23
                    clear hH
                    refine hK.out _ _ (cellsD4 b0 b1) (fun hH => ?_)
                    clear hK K
                    (try simp only [List.getElem_toArray, List.getElem_cons_zero, List.getElem_cons_succ, Act.put, List.setIfInBounds_toArray, List.set_cons_zero, List.set_cons_succ])
                    refine wpAnyH_take (i := 13) (v := ?_) rfl (by kernel_rfl) (by kernel_rfl) (by kernel_rfl) (fun _ _ _ h => h) (Or.inl ⟨by rfl, ?_⟩) (by assumption) ?_
                    rotate_left
                    · intro w' hSw
                      (try dsimp only at hSw)
                      obtain ⟨q0, q1, q2, q3⟩ := hSw
                      go_simp
                      try with_reducible rfl
                    (try simp only [List.getElem_toArray, List.getElem_cons_zero, List.getElem_cons_succ, Act.put, List.setIfInBounds_toArray, List.set_cons_zero, List.set_cons_succ])
                    refine wpAnyH_done (by kernel_rfl) ?_ _
                    clear hH
                    go_wp2
                    go_meet
                    exact ⟨rfl, g9, g10, bS, SA, nS, cS, bT, TA, nT, cT, rfl, rfl, hs9, hs10, by omega, n9, n10, zS, zT, hC⟩
                  exact AllReadyH.nil
                exact AllReadyH.nil
              exact AllReadyH.nil
            refine AllReadyH.cons rfl (fun K hK => ?_) ?_
            · skip
              go_simp
              have n10 := Blk.new x19 26 #[.bool false, .slice none 0 0]
              have hb24 : Below x19.heap.size x19 (x19.alloc (.cells #[.bool false, .slice none 0 0] 26)) := (Below.refl _ _).alloc (Nat.le_refl _) _
              obtain ⟨x24, hx24⟩ : ∃ x, x19.alloc (.cells #[.bool false, .slice none 0 0] 26) = x := ⟨_, rfl⟩
              obtain ⟨g10, hg10⟩ : ∃ g, x19.heap.size = g := ⟨_, rfl⟩
              have hs10 : wc.heap.size ≤ g10 := by rw [← hg10]; exact hC.size
              have ne9_10 : g9 ≠ g10 := by have := n9.lt; omega
              replace b0 := b0.below hb24 b0.lt
              replace b1 := b1.below hb24 b1.lt
              replace n9 := n9.below hb24 n9.lt
              replace zp := zp.below hb24
              replace zq := zq.below hb24
              replace zB := zB.below hb24
              replace hC := hC.trans (hb24.mono hC.size)
              clear hb24
              rw [hx24] at n10 hC b0 b1 n9 zp zq zB ⊢
              rw [hg10] at n10 ⊢
              clear hx24 hg10
              clear hH
              refine hK.out _ _ (cellsD4 b0 b1) (fun hH => ?_)
              clear hK K
              (try simp only [List.getElem_toArray, List.getElem_cons_zero, List.getElem_cons_succ, Act.put, List.setIfInBounds_toArray, List.set_cons_zero, List.set_cons_succ])
              refine wpAnyH_ready (rs := [4]) (by kernel_rfl) (by simp) ?_
              refine AllReadyH.cons rfl (fun K hK => ?_) ?_
              · skip
                go_simp
                refine (HDV2.out _ _ _ zB zq).mono ?_
                rintro e x25 ⟨bS, SA, nS, cS, bT, TA, nT, cT, rfl, zS, zT, hb25⟩
                replace b0 := b0.below hb25 b0.lt
                replace b1 := b1.below hb25 b1.lt
                replace n9 := n9.below hb25 n9.lt
                replace n10 := n10.below hb25 n10.lt
                replace zp := zp.below hb25
                replace zq := zq.below hb25
                replace zB := zB.below hb25
                replace hC := hC.trans (hb25.mono hC.size)
                clear hb25
                clear hH
                refine hK.out _ _ (cellsD4 b0 b1) (fun hH => ?_)
                clear hK K
                (try simp only [List.getElem_toArray, List.getElem_cons_zero, List.getElem_cons_succ, Act.put, List.setIfInBounds_toArray, List.set_cons_zero, List.set_cons_succ])
                refine wpAnyH_take (i := 5) (v := ?_) rfl (by kernel_rfl) (by kernel_rfl) (by kernel_rfl) (fun _ _ _ h => h) (Or.inl ⟨by rfl, ?_⟩) (by assumption) ?_
                rotate_left
                · intro w' hSw
                  (try dsimp only at hSw)
                  obtain ⟨q0, q1, q2, q3⟩ := hSw
                  go_simp
                  try with_reducible rfl
                (try simp only [List.getElem_toArray, List.getElem_cons_zero, List.getElem_cons_succ, Act.put, List.setIfInBounds_toArray, List.set_cons_zero, List.set_cons_succ])
                refine wpAnyH_take (i := 6) (v := ?_) rfl (by kernel_rfl) (by kernel_rfl) (by kernel_rfl) (fun _ _ _ h => h) (Or.inl ⟨by rfl, ?_⟩) (by assumption) ?_
                rotate_left
                · intro w' hSw
                  (try dsimp only at hSw)
                  obtain ⟨q0, q1, q2, q3⟩ := hSw
                  go_simp
                  try with_reducible rfl
                (try simp only [List.getElem_toArray, List.getElem_cons_zero, List.getElem_cons_succ, Act.put, List.setIfInBounds_toArray, List.set_cons_zero, List.set_cons_succ])
                refine wpAnyH_take (i := 7) (v := ?_) rfl (by kernel_rfl) (by kernel_rfl) (by kernel_rfl) (fun _ _ _ h => h) (Or.inl ⟨by rfl, ?_⟩) (by assumption) ?_
                rotate_left
                · intro w' hSw
                  (try dsimp only at hSw)
                  obtain ⟨q0, q1, q2, q3⟩ := hSw
                  go_simp
                  try with_reducible rfl
                (try simp only [List.getElem_toArray, List.getElem_cons_zero, List.getElem_cons_succ, Act.put, List.setIfInBounds_toArray, List.set_cons_zero, List.set_cons_succ])
                refine wpAnyH_take (i := 8) (v := ?_) rfl (by kernel_rfl) (by kernel_rfl) (by kernel_rfl) (fun _ _ _ h => h) (Or.inl ⟨by rfl, ?_⟩) (by assumption) ?_
                rotate_left
                · intro w' hSw
                  (try dsimp only at hSw)
                  obtain ⟨q0, q1, q2, q3⟩ := hSw
                  go_simp
                  try with_reducible rfl
                (try simp only [List.getElem_toArray, List.getElem_cons_zero, List.getElem_cons_succ, Act.put, List.setIfInBounds_toArray, List.set_cons_zero, List.set_cons_succ])
                refine wpAnyH_ready (rs := [11]) (by kernel_rfl) (by simp) ?_
                refine AllReadyH.cons rfl (fun K hK => ?_) ?_
                · skip
                  have p026 := (n9.cell 0).trans (b := some (Value.bool false)) rfl
                  have p126 := (n9.cell 1).trans (b := some (Value.slice none 0 0)) rfl
                  have p226 := n9.frozen 0
                  have p326 := n9.frozen 1
                  have p426 := n9.lt
                  go_simp
                  clear p026 p126 p226 p326 p426
                  replace zp := whz_store2 zp n9 bS SA nS cS
                  replace zq := whz_store2 zq n9 bS SA nS cS
                  replace zB := whz_store2 zB n9 bS SA nS cS
                  replace zS := whz_store2 zS n9 bS SA nS cS
                  replace zT := whz_store2 zT n9 bS SA nS cS
                  replace b0 := (b0.far (p := ⟨g9, 0, none⟩) (show w.heap.size ≠ g9 by omega) (.bool bS)).far (p := ⟨g9, 1, none⟩) (show w.heap.size ≠ g9 by omega) (.slice SA nS cS)
                  replace b1 := (b1.far (p := ⟨g9, 0, none⟩) (show (w.heap.size + 1) ≠ g9 by omega) (.bool bS)).far (p := ⟨g9, 1, none⟩) (show (w.heap.size + 1) ≠ g9 by omega) (.slice SA nS cS)
                  replace n10 := (n10.far (p := ⟨g9, 0, none⟩) (show g10 ≠ g9 by omega) (.bool bS)).far (p := ⟨g9, 1, none⟩) (show g10 ≠ g9 by omega) (.slice SA nS cS)
                  replace n9 := (n9.set_ 0 (.bool bS)).set_ 1 (.slice SA nS cS)
                  replace hC := (hC.setCell (p := ⟨g9, 0, none⟩) hs9 (.bool bS)).setCell (p := ⟨g9, 1, none⟩) hs9 (.slice SA nS cS)
                  obtain ⟨x26, hx26⟩ : ∃ x, (x25.setCell ⟨g9, 0, none⟩ (.bool bS)).setCell ⟨g9, 1, none⟩ (.slice SA nS cS) = x := ⟨_, rfl⟩
                  rw [hx26] at hC b0 b1 n9 n10 zp zq zB zS zT ⊢
                  clear hx26
                  clear hH
                  refine hK.out _ _ (cellsD4 b0 b1) (fun hH => ?_)
                  clear hK K
                  (try simp only [List.getElem_toArray, List.getElem_cons_zero, List.getElem_cons_succ, Act.put, List.setIfInBounds_toArray, List.set_cons_zero, List.set_cons_succ])
                  refine wpAnyH_ready (rs := [12]) (by kernel_rfl) (by simp) ?_
                  refine AllReadyH.cons rfl (fun K hK => ?_) ?_
                  · skip
                    have p027 := (n10.cell 0).trans (b := some (Value.bool false)) rfl
                    have p127 := (n10.cell 1).trans (b := some (Value.slice none 0 0)) rfl
                    have p227 := n10.frozen 0
                    have p327 := n10.frozen 1
                    have p427 := n10.lt
                    go_simp
                    clear p027 p127 p227 p327 p427
                    replace zp := whz_store2 zp n10 bT TA nT cT
                    replace zq := whz_store2 zq n10 bT TA nT cT
                    replace zB := whz_store2 zB n10 bT TA nT cT
                    replace zS := whz_store2 zS n10 bT TA nT cT
                    replace zT := whz_store2 zT n10 bT TA nT cT
                    replace b0 := (b0.far (p := ⟨g10, 0, none⟩) (show w.heap.size ≠ g10 by omega) (.bool bT)).far (p := ⟨g10, 1, none⟩) (show w.heap.size ≠ g10 by omega) (.slice TA nT cT)
                    replace b1 := (b1.far (p := ⟨g10, 0, none⟩) (show (w.heap.size + 1) ≠ g10 by omega) (.bool bT)).far (p := ⟨g10, 1, none⟩) (show (w.heap.size + 1) ≠ g10 by omega) (.slice TA nT cT)
                    replace n9 := (n9.far (p := ⟨g10, 0, none⟩) (show g9 ≠ g10 by omega) (.bool bT)).far (p := ⟨g10, 1, none⟩) (show g9 ≠ g10 by omega) (.slice TA nT cT)
                    replace n10 := (n10.set_ 0 (.bool bT)).set_ 1 (.slice TA nT cT)
                    replace hC := (hC.setCell (p := ⟨g10, 0, none⟩) hs10 (.bool bT)).setCell (p := ⟨g10, 1, none⟩) hs10 (.slice TA nT cT)
                    obtain ⟨x27, hx27⟩ : ∃ x, (x26.setCell ⟨g10, 0, none⟩ (.bool bT)).setCell ⟨g10, 1, none⟩ (.slice TA nT cT) = x := ⟨_, rfl⟩
                    rw [hx27] at hC b0 b1 n9 n10 zp zq zB zS zT ⊢
                    clear hx27
                    clear hH
                    refine hK.out _ _ (cellsD4 b0 b1) (fun hH => ?_)
                    clear hK K
                    (try simp only [List.getElem_toArray, List.getElem_cons_zero, List.getElem_cons_succ, Act.put, List.setIfInBounds_toArray, List.set_cons_zero, List.set_cons_succ])
                    refine wpAnyH_take (i := 13) (v := ?_) rfl (by kernel_rfl) (by kernel_rfl) (by kernel_rfl) (fun _ _ _ h => h) (Or.inl ⟨by rfl, ?_⟩) (by assumption) ?_
                    rotate_left
                    · intro w' hSw
                      (try dsimp only at hSw)
                      obtain ⟨q0, q1, q2, q3⟩ := hSw
                      go_simp
                      try with_reducible rfl
                    (try simp only [List.getElem_toArray, List.getElem_cons_zero, List.getElem_cons_succ, Act.put, List.setIfInBounds_toArray, List.set_cons_zero, List.set_cons_succ])
                    refine wpAnyH_done (by kernel_rfl) ?_ _
                    clear hH
                    go_wp2
                    go_meet
                    exact ⟨rfl, g9, g10, bS, SA, nS, cS, bT, TA, nT, cT, rfl, rfl, hs9, hs10, by omega, n9, n10, zS, zT, hC⟩
                  exact AllReadyH.nil
                exact AllReadyH.nil
              exact AllReadyH.nil
            exact AllReadyH.nil
          refine AllReadyH.cons rfl (fun K hK => ?_) ?_
          · skip
            go_simp
            have n10 := Blk.new x9 26 #[.bool false, .slice none 0 0]
            have hb28 : Below x9.heap.size x9 (x9.alloc (.cells #[.bool false, .slice none 0 0] 26)) := (Below.refl _ _).alloc (Nat.le_refl _) _
            obtain ⟨x28, hx28⟩ : ∃ x, x9.alloc (.cells #[.bool false, .slice none 0 0] 26) = x := ⟨_, rfl⟩
            obtain ⟨g10, hg10⟩ : ∃ g, x9.heap.size = g := ⟨_, rfl⟩
            have hs10 : wc.heap.size ≤ g10 := by rw [← hg10]; exact hC.size
            replace b0 := b0.below hb28 b0.lt
            replace b1 := b1.below hb28 b1.lt
            replace zp := zp.below hb28
            replace zq := zq.below hb28
            replace zB := zB.below hb28
            replace hC := hC.trans (hb28.mono hC.size)
            clear hb28
            rw [hx28] at n10 hC b0 b1 zp zq zB ⊢
            rw [hg10] at n10 ⊢
            clear hx28 hg10
            clear hH
            refine hK.out _ _ (cellsD4 b0 b1) (fun hH => ?_)
            clear hK K
            (try simp only [List.getElem_toArray, List.getElem_cons_zero, List.getElem_cons_succ, Act.put, List.setIfInBounds_toArray, List.set_cons_zero, List.set_cons_succ])
            refine wpAnyH_ready (rs := [4, 9]) (by kernel_rfl) (by simp) ?_
            refine AllReadyH.cons rfl (fun K hK => ?_) ?_
            · skip
              go_simp
              refine (HDV2.out _ _ _ zB zq).mono ?_
              rintro e x29 ⟨bS, SA, nS, cS, bT, TA, nT, cT, rfl, zS, zT, hb29⟩
              replace b0 := b0.below hb29 b0.lt
              replace b1 := b1.below hb29 b1.lt
              replace n10 := n10.below hb29 n10.lt
              replace zp := zp.below hb29
              replace zq := zq.below hb29
              replace zB := zB.below hb29
              replace hC := hC.trans (hb29.mono hC.size)
              clear hb29
              clear hH
              refine hK.out _ _ (cellsD4 b0 b1) (fun hH => ?_)
              clear hK K
              (try simp only [List.getElem_toArray, List.getElem_cons_zero, List.getElem_cons_succ, Act.put, List.setIfInBounds_toArray, List.set_cons_zero, List.set_cons_succ])
              refine wpAnyH_take (i := 5) (v := ?_) rfl (by kernel_rfl) (by kernel_rfl) (by kernel_rfl) (fun _ _ _ h => h) (Or.inl ⟨by rfl, ?_⟩) (by assumption) ?_
              rotate_left
              · intro w' hSw
                (try dsimp only at hSw)
                obtain ⟨q0, q1, q2, q3⟩ := hSw
                go_simp
                try with_reducible rfl
              (try simp only [List.getElem_toArray, List.getElem_cons_zero, List.getElem_cons_succ, Act.put, List.setIfInBounds_toArray, List.set_cons_zero, List.set_cons_succ])
              refine wpAnyH_take (i := 6) (v := ?_) rfl (by kernel_rfl) (by kernel_rfl) (by kernel_rfl) (fun _ _ _ h => h) (Or.inl ⟨by rfl, ?_⟩) (by assumption) ?_
              rotate_left
              · intro w' hSw
                (try dsimp only at hSw)
                obtain ⟨q0, q1, q2, q3⟩ := hSw
                go_simp
                try with_reducible rfl
              (try simp only [List.getElem_toArray, List.getElem_cons_zero, List.getElem_cons_succ, Act.put, List.setIfInBounds_toArray, List.set_cons_zero, List.set_cons_succ])
              refine wpAnyH_take (i := 7) (v := ?_) rfl (by kernel_rfl) (by kernel_rfl) (by kernel_rfl) (fun _ _ _ h => h) (Or.inl ⟨by rfl, ?_⟩) (by assumption) ?_
              rotate_left
              · intro w' hSw
                (try dsimp only at hSw)
                obtain ⟨q0, q1, q2, q3⟩ := hSw
                go_simp
                try with_reducible rfl
              (try simp only [List.getElem_toArray, List.getElem_cons_zero, List.getElem_cons_succ, Act.put, List.setIfInBounds_toArray, List.set_cons_zero, List.set_cons_succ])
              refine wpAnyH_take (i := 8) (v := ?_) rfl (by kernel_rfl) (by kernel_rfl) (by kernel_rfl) (fun _ _ _ h => h) (Or.inl ⟨by rfl, ?_⟩) (by assumption) ?_
              rotate_left
              · intro w' hSw
                (try dsimp only at hSw)
                obtain ⟨q0, q1, q2, q3⟩ := hSw
                go_simp
                try with_reducible rfl
              (try simp only [List.getElem_toArray, List.getElem_cons_zero, List.getElem_cons_succ, Act.put, List.setIfInBounds_toArray, List.set_cons_zero, List.set_cons_succ])
              refine wpAnyH_ready (rs := [9]) (by kernel_rfl) (by simp) ?_
              refine AllReadyH.cons rfl (fun K hK => ?_) ?_
              · skip
                go_simp
                have n9 := Blk.new x29 26 #[.bool false, .slice none 0 0]
                have hb30 : Below x29.heap.size x29 (x29.alloc (.cells #[.bool false, .slice none 0 0] 26)) := (Below.refl _ _).alloc (Nat.le_refl _) _
                obtain ⟨x30, hx30⟩ : ∃ x, x29.alloc (.cells #[.bool false, .slice none 0 0] 26) = x := ⟨_, rfl⟩
                obtain ⟨g9, hg9⟩ : ∃ g, x29.heap.size = g := ⟨_, rfl⟩
                have hs9 : wc.heap.size ≤ g9 := by rw [← hg9]; exact hC.size
                have ne10_9 : g10 ≠ g9 := by have := n10.lt; omega
                replace b0 := b0.below hb30 b0.lt
                replace b1 := b1.below hb30 b1.lt
                replace n10 := n10.below hb30 n10.lt
                replace zp := zp.below hb30
                replace zq := zq.below hb30
                replace zB := zB.below hb30
                replace zS := zS.below hb30
                replace zT := zT.below hb30
                replace hC := hC.trans (hb30.mono hC.size)
                clear hb30
                rw [hx30] at n9 hC b0 b1 n10 zp zq zB zS zT ⊢
                rw [hg9] at n9 ⊢
                clear hx30 hg9
                clear hH
                refine hK.out _ _ (cellsD4 b0 b1) (fun hH => ?_)
                clear hK K
                (try simp only [List.getElem_toArray, List.getElem_cons_zero, List.getElem_cons_succ, Act.put, List.setIfInBounds_toArray, List.set_cons_zero, List.set_cons_succ])
                refine wpAnyH_ready (rs := [11]) (by kernel_rfl) (by simp) ?_
                refine AllReadyH.cons rfl (fun K hK => ?_) ?_
                · skip
                  have p031 := (n9.cell 0).trans (b := some (Value.bool false)) rfl
                  have p131 := (n9.cell 1).trans (b := some (Value.slice none 0 0)) rfl
                  have p231 := n9.frozen 0
                  have p331 := n9.frozen 1
                  have p431 := n9.lt
                  go_simp
                  clear p031 p131 p231 p331 p431
                  replace zp := whz_store2 zp n9 bS SA nS cS
                  replace zq := whz_store2 zq n9 bS SA nS cS
                  replace zB := whz_store2 zB n9 bS SA nS cS
                  replace zS := whz_store2 zS n9 bS SA nS cS
                  replace zT := whz_store2 zT n9 bS SA nS cS
                  replace b0 := (b0.far (p := ⟨g9, 0, none⟩) (show w.heap.size ≠ g9 by omega) (.bool bS)).far (p := ⟨g9, 1, none⟩) (show w.heap.size ≠ g9 by omega) (.slice SA nS cS)
                  replace b1 := (b1.far (p := ⟨g9, 0, none⟩) (show (w.heap.size + 1) ≠ g9 by omega) (.bool bS)).far (p := ⟨g9, 1, none⟩) (show (w.heap.size + 1) ≠ g9 by omega) (.slice SA nS cS)
                  replace n10 := (n10.far (p := ⟨g9, 0, none⟩) (show g10 ≠ g9 by omega) (.bool bS)).far (p := ⟨g9, 1, none⟩) (show g10 ≠ g9 by omega) (.slice SA nS cS)
                  replace n9 := (n9.set_ 0 (.bool bS)).set_ 1 (.slice SA nS cS)
                  replace hC := (hC.setCell (p := ⟨g9, 0, none⟩) hs9 (.bool bS)).setCell (p := ⟨g9, 1, none⟩) hs9 (.slice SA nS cS)
                  obtain ⟨x31, hx31⟩ : ∃ x, (x30.setCell ⟨g9, 0, none⟩ (.bool bS)).setCell ⟨g9, 1, none⟩ (.slice SA nS cS) = x := ⟨_, rfl⟩
                  rw [hx31] at hC b0 b1 n10 n9 zp zq zB zS zT ⊢
                  clear hx31
                  clear hH
                  refine hK.out _ _ (cellsD4 b0 b1) (fun hH => ?_)
                  clear hK K
                  (try simp only [List.getElem_toArray, List.getElem_cons_zero, List.getElem_cons_succ, Act.put, List.setIfInBounds_toArray, List.set_cons_zero, List.set_cons_succ])
                  refine wpAnyH_ready (rs := [12]) (by kernel_rfl) (by simp) ?_
                  refine AllReadyH.cons rfl (fun K hK => ?_) ?_
                  · skip
                    have p032 := (n10.cell 0).trans (b := some (Value.bool false)) rfl
                    have p132 := (n10.cell 1).trans (b := some (Value.slice none 0 0)) rfl
                    have p232 := n10.frozen 0
                    have p332 := n10.frozen 1
                    have p432 := n10.lt
                    go_simp
                    clear p032 p132 p232 p332 p432
                    replace zp := whz_store2 zp n10 bT TA nT cT
                    replace zq := whz_store2 zq n10 bT TA nT cT
                    replace zB := whz_store2 zB n10 bT TA nT cT
                    replace zS := whz_store2 zS n10 bT TA nT cT
                    replace zT := whz_store2 zT n10 bT TA nT cT
                    replace b0 := (b0.far (p := ⟨g10, 0, none⟩) (show w.heap.size ≠ g10 by omega) (.bool bT)).far (p := ⟨g10, 1, none⟩) (show w.heap.size ≠ g10 by omega) (.slice TA nT cT)
                    replace b1 := (b1.far (p := ⟨g10, 0, none⟩) (show (w.heap.size + 1) ≠ g10 by omega) (.bool bT)).far (p := ⟨g10, 1, none⟩) (show (w.heap.size + 1) ≠ g10 by omega) (.slice TA nT cT)
                    replace n9 := (n9.far (p := ⟨g10, 0, none⟩) (show g9 ≠ g10 by omega) (.bool bT)).far (p := ⟨g10, 1, none⟩) (show g9 ≠ g10 by omega) (.slice TA nT cT)
                    replace n10 := (n10.set_ 0 (.bool bT)).set_ 1 (.slice TA nT cT)
                    replace hC := (hC.setCell (p := ⟨g10, 0, none⟩) hs10 (.bool bT)).setCell (p := ⟨g10, 1, none⟩) hs10 (.slice TA nT cT)
                    obtain ⟨x32, hx32⟩ : ∃ x, (x31.setCell ⟨g10, 0, none⟩ (.bool bT)).setCell ⟨g10, 1, none⟩ (.slice TA nT cT) = x := ⟨_, rfl⟩
                    rw [hx32] at hC b0 b1 n10 n9 zp zq zB zS zT ⊢
                    clear hx32
                    clear hH
                    refine hK.out _ _ (cellsD4 b0 b1) (fun hH => ?_)
                    clear hK K
                    (try simp only [List.getElem_toArray, List.getElem_cons_zero, List.getElem_cons_succ, Act.put, List.setIfInBounds_toArray, List.set_cons_zero, List.set_cons_succ])
                    refine wpAnyH_take (i := 13) (v := ?_) rfl (by kernel_rfl) (by kernel_rfl) (by kernel_rfl) (fun _ _ _ h => h) (Or.inl ⟨by rfl, ?_⟩) (by assumption) ?_
                    rotate_left
                    · intro w' hSw
                      (try dsimp only at hSw)
                      obtain ⟨q0, q1, q2, q3⟩ := hSw
                      go_simp
                      try with_reducible rfl
                    (try simp only [List.getElem_toArray, List.getElem_cons_zero, List.getElem_cons_succ, Act.put, List.setIfInBounds_toArray, List.set_cons_zero, List.set_cons_succ])
                    refine wpAnyH_done (by kernel_rfl) ?_ _
                    clear hH
                    go_wp2
                    go_meet
                    exact ⟨rfl, g9, g10, bS, SA, nS, cS, bT, TA, nT, cT, rfl, rfl, hs9, hs10, by omega, n9, n10, zS, zT, hC⟩
                  exact AllReadyH.nil
                exact AllReadyH.nil
              exact AllReadyH.nil
            refine AllReadyH.cons rfl (fun K hK => ?_) ?_
            · skip
              go_simp
              have n9 := Blk.new x28 26 #[.bool false, .slice none 0 0]
              have hb33 : Below x28.heap.size x28 (x28.alloc (.cells #[.bool false, .slice none 0 0] 26)) := (Below.refl _ _).alloc (Nat.le_refl _) _
              obtain ⟨x33, hx33⟩ : ∃ x, x28.alloc (.cells #[.bool false, .slice none 0 0] 26) = x := ⟨_, rfl⟩
              obtain ⟨g9, hg9⟩ : ∃ g, x28.heap.size = g := ⟨_, rfl⟩
              have hs9 : wc.heap.size ≤ g9 := by rw [← hg9]; exact hC.size
              have ne10_9 : g10 ≠ g9 := by have := n10.lt; omega
              replace b0 := b0.below hb33 b0.lt
              replace b1 := b1.below hb33 b1.lt
              replace n10 := n10.below hb33 n10.lt
              replace zp := zp.below hb33
              replace zq := zq.below hb33
              replace zB := zB.below hb33
              replace hC := hC.trans (hb33.mono hC.size)
              clear hb33
              rw [hx33] at n9 hC b0 b1 n10 zp zq zB ⊢
              rw [hg9] at n9 ⊢
              clear hx33 hg9
              clear hH
              refine hK.out _ _ (cellsD4 b0 b1) (fun hH => ?_)
              clear hK K
              (try simp only [List.getElem_toArray, List.getElem_cons_zero, List.getElem_cons_succ, Act.put, List.setIfInBounds_toArray, List.set_cons_zero, List.set_cons_succ])
              refine wpAnyH_ready (rs := [4]) (by kernel_rfl) (by simp) ?_
              refine AllReadyH.cons rfl (fun K hK => ?_) ?_
              · skip
                go_simp
                refine (HDV2.out _ _ _ zB zq).mono ?_
                rintro e x34 ⟨bS, SA, nS, cS, bT, TA, nT, cT, rfl, zS, zT, hb34⟩
                replace b0 := b0.below hb34 b0.lt
                replace b1 := b1.below hb34 b1.lt
                replace n10 := n10.below hb34 n10.lt
                replace n9 := n9.below hb34 n9.lt
                replace zp := zp.below hb34
                replace zq := zq.below hb34
                replace zB := zB.below hb34
                replace hC := hC.trans (hb34.mono hC.size)
                clear hb34
                clear hH
                refine hK.out _ _ (cellsD4 b0 b1) (fun hH => ?_)
                clear hK K
                (try simp only [List.getElem_toArray, List.getElem_cons_zero, List.getElem_cons_succ, Act.put, List.setIfInBounds_toArray, List.set_cons_zero, List.set_cons_succ])
                refine wpAnyH_take (i := 5) (v := ?_) rfl (by kernel_rfl) (by kernel_rfl) (by kernel_rfl) (fun _ _ _ h => h) (Or.inl ⟨by rfl, ?_⟩) (by assumption) ?_
                rotate_left
                · intro w' hSw
                  (try dsimp only at hSw)
                  obtain ⟨q0, q1, q2, q3⟩ := hSw
                  go_simp
                  try with_reducible rfl
                (try simp only [List.getElem_toArray, List.getElem_cons_zero, List.getElem_cons_succ, Act.put, List.setIfInBounds_toArray, List.set_cons_zero, List.set_cons_succ])
                refine wpAnyH_take (i := 6) (v := ?_) rfl (by kernel_rfl) (by kernel_rfl) (by kernel_rfl) (fun _ _ _ h => h) (Or.inl ⟨by rfl, ?_⟩) (by assumption) ?_
                rotate_left
                · intro w' hSw
                  (try dsimp only at hSw)
                  obtain ⟨q0, q1, q2, q3⟩ := hSw
                  go_simp
                  try with_reducible rfl
                (try simp only [List.getElem_toArray, List.getElem_cons_zero, List.getElem_cons_succ, Act.put, List.setIfInBounds_toArray, List.set_cons_zero, List.set_cons_succ])
                refine wpAnyH_take (i := 7) (v := ?_) rfl (by kernel_rfl) (by kernel_rfl) (by kernel_rfl) (fun _ _ _ h => h) (Or.inl ⟨by rfl, ?_⟩) (by assumption) ?_
                rotate_left
                · intro w' hSw
                  (try dsimp only at hSw)
                  obtain ⟨q0, q1, q2, q3⟩ := hSw
                  go_simp
                  try with_reducible rfl
                (try simp only [List.getElem_toArray, List.getElem_cons_zero, List.getElem_cons_succ, Act.put, List.setIfInBounds_toArray, List.set_cons_zero, List.set_cons_succ])
                refine wpAnyH_take (i := 8) (v := ?_) rfl (by kernel_rfl) (by kernel_rfl) (by kernel_rfl) (fun _ _ _ h => h) (Or.inl ⟨by rfl, ?_⟩) (by assumption) ?_
                rotate_left
                · intro w' hSw
                  (try dsimp only at hSw)
                  obtain ⟨q0, q1, q2, q3⟩ := hSw
                  go_simp
                  try with_reducible rfl
                (try simp only [List.getElem_toArray, List.getElem_cons_zero, List.getElem_cons_succ, Act.put, List.setIfInBounds_toArray, List.set_cons_zero, List.set_cons_succ])
                refine wpAnyH_ready (rs := [11]) (by kernel_rfl) (by simp) ?_
                refine AllReadyH.cons rfl (fun K hK => ?_) ?_
                · skip
                  have p035 := (n9.cell 0).trans (b := some (Value.bool false)) rfl
                  have p135 := (n9.cell 1).trans (b := some (Value.slice none 0 0)) rfl
                  have p235 := n9.frozen 0
                  have p335 := n9.frozen 1
                  have p435 := n9.lt
                  go_simp
                  clear p035 p135 p235 p335 p435
                  replace zp := whz_store2 zp n9 bS SA nS cS
                  replace zq := whz_store2 zq n9 bS SA nS cS
                  replace zB := whz_store2 zB n9 bS SA nS cS
                  replace zS := whz_store2 zS n9 bS SA nS cS
                  replace zT := whz_store2 zT n9 bS SA nS cS
                  replace b0 := (b0.far (p := ⟨g9, 0, none⟩) (show w.heap.size ≠ g9 by omega) (.bool bS)).far (p := ⟨g9, 1, none⟩) (show w.heap.size ≠ g9 by omega) (.slice SA nS cS)
                  replace b1 := (b1.far (p := ⟨g9, 0, none⟩) (show (w.heap.size + 1) ≠ g9 by omega) (.bool bS)).far (p := ⟨g9, 1, none⟩) (show (w.heap.size + 1) ≠ g9 by omega) (.slice SA nS cS)
                  replace n10 := (n10.far (p := ⟨g9, 0, none⟩) (show g10 ≠ g9 by omega) (.bool bS)).far (p := ⟨g9, 1, none⟩) (show g10 ≠ g9 by omega) (.slice SA nS cS)
                  replace n9 := (n9.set_ 0 (.bool bS)).set_ 1 (.slice SA nS cS)
                  replace hC := (hC.setCell (p := ⟨g9, 0, none⟩) hs9 (.bool bS)).setCell (p := ⟨g9, 1, none⟩) hs9 (.slice SA nS cS)
                  obtain ⟨x35, hx35⟩ : ∃ x, (x34.setCell ⟨g9, 0, none⟩ (.bool bS)).setCell ⟨g9, 1, none⟩ (.slice SA nS cS) = x := ⟨_, rfl⟩
                  rw [hx35] at hC b0 b1 n10 n9 zp zq zB zS zT ⊢
                  clear hx35
                  clear hH
                  refine hK.out _ _ (cellsD4 b0 b1) (fun hH => ?_)
                  clear hK K
                  (try simp only [List.getElem_toArray, List.getElem_cons_zero, List.getElem_cons_succ, Act.put, List.setIfInBounds_toArray, List.set_cons_zero, List.set_cons_succ])
                  refine wpAnyH_ready (rs := [12]) (by kernel_rfl) (by simp) ?_
                  refine AllReadyH.cons rfl (fun K hK => ?_) ?_
                  · skip
                    have p036 := (n10.cell 0).trans (b := some (Value.bool false)) rfl
                    have p136 := (n10.cell 1).trans (b := some (Value.slice none 0 0)) rfl
                    have p236 := n10.frozen 0
                    have p336 := n10.frozen 1
                    have p436 := n10.lt
                    go_simp
                    clear p036 p136 p236 p336 p436
                    replace zp := whz_store2 zp n10 bT TA nT cT
                    replace zq := whz_store2 zq n10 bT TA nT cT
                    replace zB := whz_store2 zB n10 bT TA nT cT
                    replace zS := whz_store2 zS n10 bT TA nT cT
                    replace zT := whz_store2 zT n10 bT TA nT cT
                    replace b0 := (b0.far (p := ⟨g10, 0, none⟩) (show w.heap.size ≠ g10 by omega) (.bool bT)).far (p := ⟨g10, 1, none⟩) (show w.heap.size ≠ g10 by omega) (.slice TA nT cT)
                    replace b1 := (b1.far (p := ⟨g10, 0, none⟩) (show (w.heap.size + 1) ≠ g10 by omega) (.bool bT)).far (p := ⟨g10, 1, none⟩) (show (w.heap.size + 1) ≠ g10 by omega) (.slice TA nT cT)
                    replace n9 := (n9.far (p := ⟨g10, 0, none⟩) (show g9 ≠ g10 by omega) (.bool bT)).far (p := ⟨g10, 1, none⟩) (show g9 ≠ g10 by omega) (.slice TA nT cT)
                    replace n10 := (n10.set_ 0 (.bool bT)).set_ 1 (.slice TA nT cT)
                    replace hC := (hC.setCell (p := ⟨g10, 0, none⟩) hs10 (.bool bT)).setCell (p := ⟨g10, 1, none⟩) hs10 (.slice TA nT cT)
                    obtain ⟨x36, hx36⟩ : ∃ x, (x35.setCell ⟨g10, 0, none⟩ (.bool bT)).setCell ⟨g10, 1, none⟩ (.slice TA nT cT) = x := ⟨_, rfl⟩
                    rw [hx36] at hC b0 b1 n10 n9 zp zq zB zS zT ⊢
                    clear hx36
                    clear hH
                    refine hK.out _ _ (cellsD4 b0 b1) (fun hH => ?_)
                    clear hK K
                    (try simp only [List.getElem_toArray, List.getElem_cons_zero, List.getElem_cons_succ, Act.put, List.setIfInBounds_toArray, List.set_cons_zero, List.set_cons_succ])
                    refine wpAnyH_take (i := 13) (v := ?_) rfl (by kernel_rfl) (by kernel_rfl) (by kernel_rfl) (fun _ _ _ h => h) (Or.inl ⟨by rfl, ?_⟩) (by assumption) ?_
                    rotate_left
                    · intro w' hSw
                      (try dsimp only at hSw)
                      obtain ⟨q0, q1, q2, q3⟩ := hSw
                      go_simp
                      try with_reducible rfl
                    (try simp only [List.getElem_toArray, List.getElem_cons_zero, List.getElem_cons_succ, Act.put, List.setIfInBounds_toArray, List.set_cons_zero, List.set_cons_succ])
                    refine wpAnyH_done (by kernel_rfl) ?_ _
                    clear hH
                    go_wp2
                    go_meet
                    exact ⟨rfl, g9, g10, bS, SA, nS, cS, bT, TA, nT, cT, rfl, rfl, hs9, hs10, by omega, n9, n10, zS, zT, hC⟩
                  exact AllReadyH.nil
                exact AllReadyH.nil
              exact AllReadyH.nil
            exact AllReadyH.nil
          exact AllReadyH.nil
        refine AllReadyH.cons rfl (fun K hK => ?_) ?_
        · skip
          go_simp
          have n9 := Blk.new x0 26 #[.bool false, .slice none 0 0]
          have hb37 : Below x0.heap.size x0 (x0.alloc (.cells #[.bool false, .slice none 0 0] 26)) := (Below.refl _ _).alloc (Nat.le_refl _) _
          obtain ⟨x37, hx37⟩ : ∃ x, x0.alloc (.cells #[.bool false, .slice none 0 0] 26) = x := ⟨_, rfl⟩
          obtain ⟨g9, hg9⟩ : ∃ g, x0.heap.size = g := ⟨_, rfl⟩
          have hs9 : wc.heap.size ≤ g9 := by rw [← hg9]; exact hC.size
          replace b0 := b0.below hb37 b0.lt
          replace b1 := b1.below hb37 b1.lt
          replace zp := zp.below hb37
          replace zq := zq.below hb37
          replace hC := hC.trans (hb37.mono hC.size)
          clear hb37
          rw [hx37] at n9 hC b0 b1 zp zq ⊢
          rw [hg9] at n9 ⊢
          clear hx37 hg9
          clear hH
          refine hK.out _ _ (cellsD4 b0 b1) (fun hH => ?_)
          clear hK K
          (try simp only [List.getElem_toArray, List.getElem_cons_zero, List.getElem_cons_succ, Act.put, List.setIfInBounds_toArray, List.set_cons_zero, List.set_cons_succ])
          refine wpAnyH_ready (rs := [2, 10]) (by kernel_rfl) (by simp) ?_
          refine AllReadyH.cons rfl (fun K hK => ?_) ?_
          · skip
            go_simp
            refine (sumv zp zq kzp_.out kzq_.out kB_.out).mono ?_
            rintro e x38 ⟨vB, rfl, zB, hb38⟩
            replace b0 := b0.below hb38 b0.lt
            replace b1 := b1.below hb38 b1.lt
            replace n9 := n9.below hb38 n9.lt
            replace zp := zp.below hb38
            replace zq := zq.below hb38
            replace hC := hC.trans (hb38.mono hC.size)
            clear hb38
            clear hH
            refine hK.out _ _ (cellsD4 b0 b1) (fun hH => ?_)
            clear hK K
            (try simp only [List.getElem_toArray, List.getElem_cons_zero, List.getElem_cons_succ, Act.put, List.setIfInBounds_toArray, List.set_cons_zero, List.set_cons_succ])
            refine wpAnyH_ready (rs := [4, 10]) (by kernel_rfl) (by simp) ?_
            refine AllReadyH.cons rfl (fun K hK => ?_) ?_
            · skip
              go_simp
              refine (HDV2.out _ _ _ zB zq).mono ?_
              rintro e x39 ⟨bS, SA, nS, cS, bT, TA, nT, cT, rfl, zS, zT, hb39⟩
              replace b0 := b0.below hb39 b0.lt
              replace b1 := b1.below hb39 b1.lt
              replace n9 := n9.below hb39 n9.lt
              replace zp := zp.below hb39
              replace zq := zq.below hb39
              replace zB := zB.below hb39
              replace hC := hC.trans (hb39.mono hC.size)
              clear hb39
              clear hH
              refine hK.out _ _ (cellsD4 b0 b1) (fun hH => ?_)
              clear hK K
              (try simp only [List.getElem_toArray, List.getElem_cons_zero, List.getElem_cons_succ, Act.put, List.setIfInBounds_toArray, List.set_cons_zero, List.set_cons_succ])
              refine wpAnyH_take (i := 5) (v := ?_) rfl (by kernel_rfl) (by kernel_rfl) (by kernel_rfl) (fun _ _ _ h => h) (Or.inl ⟨by rfl, ?_⟩) (by assumption) ?_
              rotate_left
              · intro w' hSw
                (try dsimp only at hSw)
                obtain ⟨q0, q1, q2, q3⟩ := hSw
                go_simp
                try with_reducible rfl
              (try simp only [List.getElem_toArray, List.getElem_cons_zero, List.getElem_cons_succ, Act.put, List.setIfInBounds_toArray, List.set_cons_zero, List.set_cons_succ])
              refine wpAnyH_take (i := 6) (v := ?_) rfl (by kernel_rfl) (by kernel_rfl) (by kernel_rfl) (fun _ _ _ h => h) (Or.inl ⟨by rfl, ?_⟩) (by assumption) ?_
              rotate_left
              · intro w' hSw
                (try dsimp only at hSw)
                obtain ⟨q0, q1, q2, q3⟩ := hSw
                go_simp
                try with_reducible rfl
              (try simp only [List.getElem_toArray, List.getElem_cons_zero, List.getElem_cons_succ, Act.put, List.setIfInBounds_toArray, List.set_cons_zero, List.set_cons_succ])
              refine wpAnyH_take (i := 7) (v := ?_) rfl (by kernel_rfl) (by kernel_rfl) (by kernel_rfl) (fun _ _ _ h => h) (Or.inl ⟨by rfl, ?_⟩) (by assumption) ?_
              rotate_left
              · intro w' hSw
                (try dsimp only at hSw)
                obtain ⟨q0, q1, q2, q3⟩ := hSw
                go_simp
                try with_reducible rfl
              (try simp only [List.getElem_toArray, List.getElem_cons_zero, List.getElem_cons_succ, Act.put, List.setIfInBounds_toArray, List.set_cons_zero, List.set_cons_succ])
              refine wpAnyH_take (i := 8) (v := ?_) rfl (by kernel_rfl) (by kernel_rfl) (by kernel_rfl) (fun _ _ _ h => h) (Or.inl ⟨by rfl, ?_⟩) (by assumption) ?_
              rotate_left
              · intro w' hSw
                (try dsimp only at hSw)
                obtain ⟨q0, q1, q2, q3⟩ := hSw
                go_simp
                try with_reducible rfl
              (try simp only [List.getElem_toArray, List.getElem_cons_zero, List.getElem_cons_succ, Act.put, List.setIfInBounds_toArray, List.set_cons_zero, List.set_cons_succ])
              refine wpAnyH_ready (rs := [10]) (by kernel_rfl) (by simp) ?_
              refine AllReadyH.cons rfl (fun K hK => ?_) ?_
              · skip
                go_simp
                have n10 := Blk.new x39 26 #[.bool false, .slice none 0 0]
                have hb40 : Below x39.heap.size x39 (x39.alloc (.cells #[.bool false, .slice none 0 0] 26)) := (Below.refl _ _).alloc (Nat.le_refl _) _
                obtain ⟨x40, hx40⟩ : ∃ x, x39.alloc (.cells #[.bool false, .slice none 0 0] 26) = x := ⟨_, rfl⟩
                obtain ⟨g10, hg10⟩ : ∃ g, x39.heap.size = g := ⟨_, rfl⟩
                have hs10 : wc.heap.size ≤ g10 := by rw [← hg10]; exact hC.size
                have ne9_10 : g9 ≠ g10 := by have := n9.lt; omega
                replace b0 := b0.below hb40 b0.lt
                replace b1 := b1.below hb40 b1.lt
                replace n9 := n9.below hb40 n9.lt
                replace zp := zp.below hb40
                replace zq := zq.below hb40
                replace zB := zB.below hb40
                replace zS := zS.below hb40
                replace zT := zT.below hb40
                replace hC := hC.trans (hb40.mono hC.size)
                clear hb40
                rw [hx40] at n10 hC b0 b1 n9 zp zq zB zS zT ⊢
                rw [hg10] at n10 ⊢
                clear hx40 hg10
                clear hH
                refine hK.out _ _ (cellsD4 b0 b1) (fun hH => ?_)
                clear hK K
                (try simp only [List.getElem_toArray, List.getElem_cons_zero, List.getElem_cons_succ, Act.put, List.setIfInBounds_toArray, List.set_cons_zero, List.set_cons_succ])
                refine wpAnyH_ready (rs := [11]) (by kernel_rfl) (by simp) ?_
                refine AllReadyH.cons rfl (fun K hK => ?_) ?_
                · skip
                  have p041 := (n9.cell 0).trans (b := some (Value.bool false)) rfl
                  have p141 := (n9.cell 1).trans (b := some (Value.slice none 0 0)) rfl
                  have p241 := n9.frozen 0
                  have p341 := n9.frozen 1
                  have p441 := n9.lt
                  go_simp
                  clear p041 p141 p241 p341 p441
                  replace zp := whz_store2 zp n9 bS SA nS cS
                  replace zq := whz_store2 zq n9 bS SA nS cS
                  replace zB := whz_store2 zB n9 bS SA nS cS
                  replace zS := whz_store2 zS n9 bS SA nS cS
                  replace zT := whz_store2 zT n9 bS SA nS cS
                  replace b0 := (b0.far (p := ⟨g9, 0, none⟩) (show w.heap.size ≠ g9 by omega) (.bool bS)).far (p := ⟨g9, 1, none⟩) (show w.heap.size ≠ g9 by omega) (.slice SA nS cS)
                  replace b1 := (b1.far (p := ⟨g9, 0, none⟩) (show (w.heap.size + 1) ≠ g9 by omega) (.bool bS)).far (p := ⟨g9, 1, none⟩) (show (w.heap.size + 1) ≠ g9 by omega) (.slice SA nS cS)
                  replace n10 := (n10.far (p := ⟨g9, 0, none⟩) (show g10 ≠ g9 by omega) (.bool bS)).far (p := ⟨g9, 1, none⟩) (show g10 ≠ g9 by omega) (.slice SA nS cS)
                  replace n9 := (n9.set_ 0 (.bool bS)).set_ 1 (.slice SA nS cS)
                  replace hC := (hC.setCell (p := ⟨g9, 0, none⟩) hs9 (.bool bS)).setCell (p := ⟨g9, 1, none⟩) hs9 (.slice SA nS cS)
                  obtain ⟨x41, hx41⟩ : ∃ x, (x40.setCell ⟨g9, 0, none⟩ (.bool bS)).setCell ⟨g9, 1, none⟩ (.slice SA nS cS) = x := ⟨_, rfl⟩
                  rw [hx41] at hC b0 b1 n9 n10 zp zq zB zS zT ⊢
                  clear hx41
                  clear hH
                  refine hK.out _ _ (cellsD4 b0 b1) (fun hH => ?_)
                  clear hK K
                  (try simp only [List.getElem_toArray, List.getElem_cons_zero, List.getElem_cons_succ, Act.put, List.setIfInBounds_toArray, List.set_cons_zero, List.set_cons_succ])
                  refine wpAnyH_ready (rs := [12]) (by kernel_rfl) (by simp) ?_
                  refine AllReadyH.cons rfl (fun K hK => ?_) ?_
                  · skip
                    have p042 := (n10.cell 0).trans (b := some (Value.bool false)) rfl
                    have p142 := (n10.cell 1).trans (b := some (Value.slice none 0 0)) rfl
                    have p242 := n10.frozen 0
                    have p342 := n10.frozen 1
                    have p442 := n10.lt
                    go_simp
                    clear p042 p142 p242 p342 p442
                    replace zp := whz_store2 zp n10 bT TA nT cT
                    replace zq := whz_store2 zq n10 bT TA nT cT
                    replace zB := whz_store2 zB n10 bT TA nT cT
                    replace zS := whz_store2 zS n10 bT TA nT cT
                    replace zT := whz_store2 zT n10 bT TA nT cT
                    replace b0 := (b0.far (p := ⟨g10, 0, none⟩) (show w.heap.size ≠ g10 by omega) (.bool bT)).far (p := ⟨g10, 1, none⟩) (show w.heap.size ≠ g10 by omega) (.slice TA nT cT)
                    replace b1 := (b1.far (p := ⟨g10, 0, none⟩) (show (w.heap.size + 1) ≠ g10 by omega) (.bool bT)).far (p := ⟨g10, 1, none⟩) (show (w.heap.size + 1) ≠ g10 by omega) (.slice TA nT cT)
                    replace n9 := (n9.far (p := ⟨g10, 0, none⟩) (show g9 ≠ g10 by omega) (.bool bT)).far (p := ⟨g10, 1, none⟩) (show g9 ≠ g10 by omega) (.slice TA nT cT)
                    replace n10 := (n10.set_ 0 (.bool bT)).set_ 1 (.slice TA nT cT)
                    replace hC := (hC.setCell (p := ⟨g10, 0, none⟩) hs10 (.bool bT)).setCell (p := ⟨g10, 1, none⟩) hs10 (.slice TA nT cT)
                    obtain ⟨x42, hx42⟩ : ∃ x, (x41.setCell ⟨g10, 0, none⟩ (.bool bT)).setCell ⟨g10, 1, none⟩ (.slice TA nT cT) = x := ⟨_, rfl⟩
                    rw [hx42] at hC b0 b1 n9 n10 zp zq zB zS zT ⊢
                    clear hx42
                    clear hH
                    refine hK.out _ _ (cellsD4 b0 b1) (fun hH => ?_)
                    clear hK K
                    (try simp only [List.getElem_toArray, List.getElem_cons_zero, List.getElem_cons_succ, Act.put, List.setIfInBounds_toArray, List.set_cons_zero, List.set_cons_succ])
                    refine wpAnyH_take (i := 13) (v := ?_) rfl (by kernel_rfl) (by kernel_rfl) (by kernel_rfl) (fun _ _ _ h => h) (Or.inl ⟨by rfl, ?_⟩) (by assumption) ?_
                    rotate_left
                    · intro w' hSw
                      (try dsimp only at hSw)
                      obtain ⟨q0, q1, q2, q3⟩ := hSw
                      go_simp
                      try with_reducible rfl
                    (try simp only [List.getElem_toArray, List.getElem_cons_zero, List.getElem_cons_succ, Act.put, List.setIfInBounds_toArray, List.set_cons_zero, List.set_cons_succ])
                    refine wpAnyH_done (by kernel_rfl) ?_ _
                    clear hH
                    go_wp2
                    go_meet
                    exact ⟨rfl, g9, g10, bS, SA, nS, cS, bT, TA, nT, cT, rfl, rfl, hs9, hs10, by omega, n9, n10, zS, zT, hC⟩
                  exact AllReadyH.nil
                exact AllReadyH.nil
              exact AllReadyH.nil
            refine AllReadyH.cons rfl (fun K hK => ?_) ?_
            · skip
              go_simp
              have n10 := Blk.new x38 26 #[.bool false, .slice none 0 0]
              have hb43 : Below x38.heap.size x38 (x38.alloc (.cells #[.bool false, .slice none 0 0] 26)) := (Below.refl _ _).alloc (Nat.le_refl _) _
              obtain ⟨x43, hx43⟩ : ∃ x, x38.alloc (.cells #[.bool false, .slice none 0 0] 26) = x := ⟨_, rfl⟩
              obtain ⟨g10, hg10⟩ : ∃ g, x38.heap.size = g := ⟨_, rfl⟩
              have hs10 : wc.heap.size ≤ g10 := by rw [← hg10]; exact hC.size
              have ne9_10 : g9 ≠ g10 := by have := n9.lt; omega
              replace b0 := b0.below hb43 b0.lt
              replace b1 := b1.below hb43 b1.lt
              replace n9 := n9.below hb43 n9.lt
              replace zp := zp.below hb43
              replace zq := zq.below hb43
              replace zB := zB.below hb43
              replace hC := hC.trans (hb43.mono hC.size)
              clear hb43
              rw [hx43] at n10 hC b0 b1 n9 zp zq zB ⊢
              rw [hg10] at n10 ⊢
              clear hx43 hg10
              clear hH
              refine hK.out _ _ (cellsD4 b0 b1) (fun hH => ?_)
              clear hK K
              (try simp only [List.getElem_toArray, List.getElem_cons_zero, List.getElem_cons_succ, Act.put, List.setIfInBounds_toArray, List.set_cons_zero, List.set_cons_succ])
              refine wpAnyH_ready (rs := [4]) (by kernel_rfl) (by simp) ?_
              refine AllReadyH.cons rfl (fun K hK => ?_) ?_
              · skip
                go_simp
                refine (HDV2.out _ _ _ zB zq).mono ?_
                rintro e x44 ⟨bS, SA, nS, cS, bT, TA, nT, cT, rfl, zS, zT, hb44⟩
                replace b0 := b0.below hb44 b0.lt
                replace b1 := b1.below hb44 b1.lt
                replace n9 := n9.below hb44 n9.lt
                replace n10 := n10.below hb44 n10.lt
                replace zp := zp.below hb44
                replace zq := zq.below hb44
                replace zB := zB.below hb44
                replace hC := hC.trans (hb44.mono hC.size)
                clear hb44
                clear hH
                refine hK.out _ _ (cellsD4 b0 b1) (fun hH => ?_)
                clear hK K
                (try simp only [List.getElem_toArray, List.getElem_cons_zero, List.getElem_cons_succ, Act.put, List.setIfInBounds_toArray, List.set_cons_zero, List.set_cons_succ])
                refine wpAnyH_take (i := 5) (v := ?_) rfl (by kernel_rfl) (by kernel_rfl) (by kernel_rfl) (fun _ _ _ h => h) (Or.inl ⟨by rfl, ?_⟩) (by assumption) ?_
                rotate_left
                · intro w' hSw
                  (try dsimp only at hSw)
                  obtain ⟨q0, q1, q2, q3⟩ := hSw
                  go_simp
                  try with_reducible rfl
                (try simp only [List.getElem_toArray, List.getElem_cons_zero, List.getElem_cons_succ, Act.put, List.setIfInBounds_toArray, List.set_cons_zero, List.set_cons_succ])
                refine wpAnyH_take (i := 6) (v := ?_) rfl (by kernel_rfl) (by kernel_rfl) (by kernel_rfl) (fun _ _ _ h => h) (Or.inl ⟨by rfl, ?_⟩) (by assumption) ?_
                rotate_left
                · intro w' hSw
                  (try dsimp only at hSw)
                  obtain ⟨q0, q1, q2, q3⟩ := hSw
                  go_simp
                  try with_reducible rfl
                (try simp only [List.getElem_toArray, List.getElem_cons_zero, List.getElem_cons_succ, Act.put, List.setIfInBounds_toArray, List.set_cons_zero, List.set_cons_succ])
                refine wpAnyH_take (i := 7) (v := ?_) rfl (by kernel_rfl) (by kernel_rfl) (by kernel_rfl) (fun _ _ _ h => h) (Or.inl ⟨by rfl, ?_⟩) (by assumption) ?_
                rotate_left
                · intro w' hSw
                  (try dsimp only at hSw)
                  obtain ⟨q0, q1, q2, q3⟩ := hSw
                  go_simp
                  try with_reducible rfl
                (try simp only [List.getElem_toArray, List.getElem_cons_zero, List.getElem_cons_succ, Act.put, List.setIfInBounds_toArray, List.set_cons_zero, List.set_cons_succ])
                refine wpAnyH_take (i := 8) (v := ?_) rfl (by kernel_rfl) (by kernel_rfl) (by kernel_rfl) (fun _ _ _ h => h) (Or.inl ⟨by rfl, ?_⟩) (by assumption) ?_
                rotate_left
                · intro w' hSw
                  (try dsimp only at hSw)
                  obtain ⟨q0, q1, q2, q3⟩ := hSw
                  go_simp
                  try with_reducible rfl
                (try simp only [List.getElem_toArray, List.getElem_cons_zero, List.getElem_cons_succ, Act.put, List.setIfInBounds_toArray, List.set_cons_zero, List.set_cons_succ])
                refine wpAnyH_ready (rs := [11]) (by kernel_rfl) (by simp) ?_
                refine AllReadyH.cons rfl (fun K hK => ?_) ?_
                · skip
                  have p045 := (n9.cell 0).trans (b := some (Value.bool false)) rfl
                  have p145 := (n9.cell 1).trans (b := some (Value.slice none 0 0)) rfl
                  have p245 := n9.frozen 0
                  have p345 := n9.frozen 1
                  have p445 := n9.lt
                  go_simp
                  clear p045 p145 p245 p345 p445
                  replace zp := whz_store2 zp n9 bS SA nS cS
                  replace zq := whz_store2 zq n9 bS SA nS cS
                  replace zB := whz_store2 zB n9 bS SA nS cS
                  replace zS := whz_store2 zS n9 bS SA nS cS
                  replace zT := whz_store2 zT n9 bS SA nS cS
                  replace b0 := (b0.far (p := ⟨g9, 0, none⟩) (show w.heap.size ≠ g9 by omega) (.bool bS)).far (p := ⟨g9, 1, none⟩) (show w.heap.size ≠ g9 by omega) (.slice SA nS cS)
                  replace b1 := (b1.far (p := ⟨g9, 0, none⟩) (show (w.heap.size + 1) ≠ g9 by omega) (.bool bS)).far (p := ⟨g9, 1, none⟩) (show (w.heap.size + 1) ≠ g9 by omega) (.slice SA nS cS)
                  replace n10 := (n10.far (p := ⟨g9, 0, none⟩) (show g10 ≠ g9 by omega) (.bool bS)).far (p := ⟨g9, 1, none⟩) (show g10 ≠ g9 by omega) (.slice SA nS cS)
                  replace n9 := (n9.set_ 0 (.bool bS)).set_ 1 (.slice SA nS cS)
                  replace hC := (hC.setCell (p := ⟨g9, 0, none⟩) hs9 (.bool bS)).setCell (p := ⟨g9, 1, none⟩) hs9 (.slice SA nS cS)
                  obtain ⟨x45, hx45⟩ : ∃ x, (x44.setCell ⟨g9, 0, none⟩ (.bool bS)).setCell ⟨g9, 1, none⟩ (.slice SA nS cS) = x := ⟨_, rfl⟩
                  rw [hx45] at hC b0 b1 n9 n10 zp zq zB zS zT ⊢
                  clear hx45
                  clear hH
                  refine hK.out _ _ (cellsD4 b0 b1) (fun hH => ?_)
                  clear hK K
                  (try simp only [List.getElem_toArray, List.getElem_cons_zero, List.getElem_cons_succ, Act.put, List.setIfInBounds_toArray, List.set_cons_zero, List.set_cons_succ])
                  refine wpAnyH_ready (rs := [12]) (by kernel_rfl) (by simp) ?_
                  refine AllReadyH.cons rfl (fun K hK => ?_) ?_
                  · skip
                    have p046 := (n10.cell 0).trans (b := some (Value.bool false)) rfl
                    have p146 := (n10.cell 1).trans (b := some (Value.slice none 0 0)) rfl
                    have p246 := n10.frozen 0
                    have p346 := n10.frozen 1
                    have p446 := n10.lt
                    go_simp
                    clear p046 p146 p246 p346 p446
                    replace zp := whz_store2 zp n10 bT TA nT cT
                    replace zq := whz_store2 zq n10 bT TA nT cT
                    replace zB := whz_store2 zB n10 bT TA nT cT
                    replace zS := whz_store2 zS n10 bT TA nT cT
                    replace zT := whz_store2 zT n10 bT TA nT cT
                    replace b0 := (b0.far (p := ⟨g10, 0, none⟩) (show w.heap.size ≠ g10 by omega) (.bool bT)).far (p := ⟨g10, 1, none⟩) (show w.heap.size ≠ g10 by omega) (.slice TA nT cT)
                    replace b1 := (b1.far (p := ⟨g10, 0, none⟩) (show (w.heap.size + 1) ≠ g10 by omega) (.bool bT)).far (p := ⟨g10, 1, none⟩) (show (w.heap.size + 1) ≠ g10 by omega) (.slice TA nT cT)
                    replace n9 := (n9.far (p := ⟨g10, 0, none⟩) (show g9 ≠ g10 by omega) (.bool bT)).far (p := ⟨g10, 1, none⟩) (show g9 ≠ g10 by omega) (.slice TA nT cT)
                    replace n10 := (n10.set_ 0 (.bool bT)).set_ 1 (.slice TA nT cT)
                    replace hC := (hC.setCell (p := ⟨g10, 0, none⟩) hs10 (.bool bT)).setCell (p := ⟨g10, 1, none⟩) hs10 (.slice TA nT cT)
                    obtain ⟨x46, hx46⟩ : ∃ x, (x45.setCell ⟨g10, 0, none⟩ (.bool bT)).setCell ⟨g10, 1, none⟩ (.slice TA nT cT) = x := ⟨_, rfl⟩
                    rw [hx46] at hC b0 b1 n9 n10 zp zq zB zS zT ⊢
                    clear hx46
                    clear hH
                    refine hK.out _ _ (cellsD4 b0 b1) (fun hH => ?_)
                    clear hK K
                    (try simp only [List.getElem_toArray, List.getElem_cons_zero, List.getElem_cons_succ, Act.put, List.setIfInBounds_toArray, List.set_cons_zero, List.set_cons_succ])
                    refine wpAnyH_take (i := 13) (v := ?_) rfl (by kernel_rfl) (by kernel_rfl) (by kernel_rfl) (fun _ _ _ h => h) (Or.inl ⟨by rfl, ?_⟩) (by assumption) ?_
                    rotate_left
                    · intro w' hSw
                      (try dsimp only at hSw)
                      obtain ⟨q0, q1, q2, q3⟩ := hSw
                      go_simp
                      try with_reducible rfl
                    (try simp only [List.getElem_toArray, List.getElem_cons_zero, List.getElem_cons_succ, Act.put, List.setIfInBounds_toArray, List.set_cons_zero, List.set_cons_succ])
                    refine wpAnyH_done (by kernel_rfl) ?_ _
                    clear hH
                    go_wp2
                    go_meet
                    exact ⟨rfl, g9, g10, bS, SA, nS, cS, bT, TA, nT, cT, rfl, rfl, hs9, hs10, by omega, n9, n10, zS, zT, hC⟩
                  exact AllReadyH.nil
                exact AllReadyH.nil
              exact AllReadyH.nil
            exact AllReadyH.nil
          refine AllReadyH.cons rfl (fun K hK => ?_) ?_
          · skip
            go_simp
            have n10 := Blk.new x37 26 #[.bool false, .slice none 0 0]
            have hb47 : Below x37.heap.size x37 (x37.alloc (.cells #[.bool false, .slice none 0 0] 26)) := (Below.refl _ _).alloc (Nat.le_refl _) _
            obtain ⟨x47, hx47⟩ : ∃ x, x37.alloc (.cells #[.bool false, .slice none 0 0] 26) = x := ⟨_, rfl⟩
            obtain ⟨g10, hg10⟩ : ∃ g, x37.heap.size = g := ⟨_, rfl⟩
            have hs10 : wc.heap.size ≤ g10 := by rw [← hg10]; exact hC.size
            have ne9_10 : g9 ≠ g10 := by have := n9.lt; omega
            replace b0 := b0.below hb47 b0.lt
            replace b1 := b1.below hb47 b1.lt
            replace n9 := n9.below hb47 n9.lt
            replace zp := zp.below hb47
            replace zq := zq.below hb47
            replace hC := hC.trans (hb47.mono hC.size)
            clear hb47
            rw [hx47] at n10 hC b0 b1 n9 zp zq ⊢
            rw [hg10] at n10 ⊢
            clear hx47 hg10
            clear hH
            refine hK.out _ _ (cellsD4 b0 b1) (fun hH => ?_)
            clear hK K
            (try simp only [List.getElem_toArray, List.getElem_cons_zero, List.getElem_cons_succ, Act.put, List.setIfInBounds_toArray, List.set_cons_zero, List.set_cons_succ])
            refine wpAnyH_ready (rs := [2]) (by kernel_rfl) (by simp) ?_
            refine AllReadyH.cons rfl (fun K hK => ?_) ?_
            · skip
              go_simp
              refine (sumv zp zq kzp_.out kzq_.out kB_.out).mono ?_
              rintro e x48 ⟨vB, rfl, zB, hb48⟩
              replace b0 := b0.below hb48 b0.lt
              replace b1 := b1.below hb48 b1.lt
              replace n9 := n9.below hb48 n9.lt
              replace n10 := n10.below hb48 n10.lt
              replace zp := zp.below hb48
              replace zq := zq.below hb48
              replace hC := hC.trans (hb48.mono hC.size)
              clear hb48
              clear hH
              refine hK.out _ _ (cellsD4 b0 b1) (fun hH => ?_)
              clear hK K
              (try simp only [List.getElem_toArray, List.getElem_cons_zero, List.getElem_cons_succ, Act.put, List.setIfInBounds_toArray, List.set_cons_zero, List.set_cons_succ])
              refine wpAnyH_ready (rs := [4]) (by kernel_rfl) (by simp) ?_
              refine AllReadyH.cons rfl (fun K hK => ?_) ?_
              · skip
                go_simp
                refine (HDV2.out _ _ _ zB zq).mono ?_
                rintro e x49 ⟨bS, SA, nS, cS, bT, TA, nT, cT, rfl, zS, zT, hb49⟩
                replace b0 := b0.below hb49 b0.lt
                replace b1 := b1.below hb49 b1.lt
                replace n9 := n9.below hb49 n9.lt
                replace n10 := n10.below hb49 n10.lt
                replace zp := zp.below hb49
                replace zq := zq.below hb49
                replace zB := zB.below hb49
                replace hC := hC.trans (hb49.mono hC.size)
                clear hb49
                clear hH
                refine hK.out _ _ (cellsD4 b0 b1) (fun hH => ?_)
                clear hK K
                (try simp only [List.getElem_toArray, List.getElem_cons_zero, List.getElem_cons_succ, Act.put, List.setIfInBounds_toArray, List.set_cons_zero, List.set_cons_succ])
                refine wpAnyH_take (i := 5) (v := ?_) rfl (by kernel_rfl) (by kernel_rfl) (by kernel_rfl) (fun _ _ _ h => h) (Or.inl ⟨by rfl, ?_⟩) (by assumption) ?_
                rotate_left
                · intro w' hSw
                  (try dsimp only at hSw)
                  obtain ⟨q0, q1, q2, q3⟩ := hSw
                  go_simp
                  try with_reducible rfl
                (try simp only [List.getElem_toArray, List.getElem_cons_zero, List.getElem_cons_succ, Act.put, List.setIfInBounds_toArray, List.set_cons_zero, List.set_cons_succ])
                refine wpAnyH_take (i := 6) (v := ?_) rfl (by kernel_rfl) (by kernel_rfl) (by kernel_rfl) (fun _ _ _ h => h) (Or.inl ⟨by rfl, ?_⟩) (by assumption) ?_
                rotate_left
                · intro w' hSw
                  (try dsimp only at hSw)
                  obtain ⟨q0, q1, q2, q3⟩ := hSw
                  go_simp
                  try with_reducible rfl
                (try simp only [List.getElem_toArray, List.getElem_cons_zero, List.getElem_cons_succ, Act.put, List.setIfInBounds_toArray, List.set_cons_zero, List.set_cons_succ])
                refine wpAnyH_take (i := 7) (v := ?_) rfl (by kernel_rfl) (by kernel_rfl) (by kernel_rfl) (fun _ _ _ h => h) (Or.inl ⟨by rfl, ?_⟩) (by assumption) ?_
                rotate_left
                · intro w' hSw
                  (try dsimp only at hSw)
                  obtain ⟨q0, q1, q2, q3⟩ := hSw
                  go_simp
                  try with_reducible rfl
                (try simp only [List.getElem_toArray, List.getElem_cons_zero, List.getElem_cons_succ, Act.put, List.setIfInBounds_toArray, List.set_cons_zero, List.set_cons_succ])
                refine wpAnyH_take (i := 8) (v := ?_) rfl (by kernel_rfl) (by kernel_rfl) (by kernel_rfl) (fun _ _ _ h => h) (Or.inl ⟨by rfl, ?_⟩) (by assumption) ?_
                rotate_left
                · intro w' hSw
                  (try dsimp only at hSw)
                  obtain ⟨q0, q1, q2, q3⟩ := hSw
                  go_simp
                  try with_reducible rfl
                (try simp only [List.getElem_toArray, List.getElem_cons_zero, List.getElem_cons_succ, Act.put, List.setIfInBounds_toArray, List.set_cons_zero, List.set_cons_succ])
                refine wpAnyH_ready (rs := [11]) (by kernel_rfl) (by simp) ?_
                refine AllReadyH.cons rfl (fun K hK => ?_) ?_
                · skip
                  have p050 := (n9.cell 0).trans (b := some (Value.bool false)) rfl
                  have p150 := (n9.cell 1).trans (b := some (Value.slice none 0 0)) rfl
                  have p250 := n9.frozen 0
                  have p350 := n9.frozen 1
                  have p450 := n9.lt
                  go_simp
                  clear p050 p150 p250 p350 p450
                  replace zp := whz_store2 zp n9 bS SA nS cS
                  replace zq := whz_store2 zq n9 bS SA nS cS
                  replace zB := whz_store2 zB n9 bS SA nS cS
                  replace zS := whz_store2 zS n9 bS SA nS cS
                  replace zT := whz_store2 zT n9 bS SA nS cS
                  replace b0 := (b0.far (p := ⟨g9, 0, none⟩) (show w.heap.size ≠ g9 by omega) (.bool bS)).far (p := ⟨g9, 1, none⟩) (show w.heap.size ≠ g9 by omega) (.slice SA nS cS)
                  replace b1 := (b1.far (p := ⟨g9, 0, none⟩) (show (w.heap.size + 1) ≠ g9 by omega) (.bool bS)).far (p := ⟨g9, 1, none⟩) (show (w.heap.size + 1) ≠ g9 by omega) (.slice SA nS cS)
                  replace n10 := (n10.far (p := ⟨g9, 0, none⟩) (show g10 ≠ g9 by omega) (.bool bS)).far (p := ⟨g9, 1, none⟩) (show g10 ≠ g9 by omega) (.slice SA nS cS)
                  replace n9 := (n9.set_ 0 (.bool bS)).set_ 1 (.slice SA nS cS)
                  replace hC := (hC.setCell (p := ⟨g9, 0, none⟩) hs9 (.bool bS)).setCell (p := ⟨g9, 1, none⟩) hs9 (.slice SA nS cS)
                  obtain ⟨x50, hx50⟩ : ∃ x, (x49.setCell ⟨g9, 0, none⟩ (.bool bS)).setCell ⟨g9, 1, none⟩ (.slice SA nS cS) = x := ⟨_, rfl⟩
                  rw [hx50] at hC b0 b1 n9 n10 zp zq zB zS zT ⊢
                  clear hx50
                  clear hH
                  refine hK.out _ _ (cellsD4 b0 b1) (fun hH => ?_)
                  clear hK K
                  (try simp only [List.getElem_toArray, List.getElem_cons_zero, List.getElem_cons_succ, Act.put, List.setIfInBounds_toArray, List.set_cons_zero, List.set_cons_succ])
                  refine wpAnyH_ready (rs := [12]) (by kernel_rfl) (by simp) ?_
                  refine AllReadyH.cons rfl (fun K hK => ?_) ?_
                  · skip
                    have p051 := (n10.cell 0).trans (b := some (Value.bool false)) rfl
                    have p151 := (n10.cell 1).trans (b := some (Value.slice none 0 0)) rfl
                    have p251 := n10.frozen 0
                    have p351 := n10.frozen 1
                    have p451 := n10.lt
                    go_simp
                    clear p051 p151 p251 p351 p451
                    replace zp := whz_store2 zp n10 bT TA nT cT
                    replace zq := whz_store2 zq n10 bT TA nT cT
                    replace zB := whz_store2 zB n10 bT TA nT cT
                    replace zS := whz_store2 zS n10 bT TA nT cT
                    replace zT := whz_store2 zT n10 bT TA nT cT
                    replace b0 := (b0.far (p := ⟨g10, 0, none⟩) (show w.heap.size ≠ g10 by omega) (.bool bT)).far (p := ⟨g10, 1, none⟩) (show w.heap.size ≠ g10 by omega) (.slice TA nT cT)
                    replace b1 := (b1.far (p := ⟨g10, 0, none⟩) (show (w.heap.size + 1) ≠ g10 by omega) (.bool bT)).far (p := ⟨g10, 1, none⟩) (show (w.heap.size + 1) ≠ g10 by omega) (.slice TA nT cT)
                    replace n9 := (n9.far (p := ⟨g10, 0, none⟩) (show g9 ≠ g10 by omega) (.bool bT)).far (p := ⟨g10, 1, none⟩) (show g9 ≠ g10 by omega) (.slice TA nT cT)
                    replace n10 := (n10.set_ 0 (.bool bT)).set_ 1 (.slice TA nT cT)
                    replace hC := (hC.setCell (p := ⟨g10, 0, none⟩) hs10 (.bool bT)).setCell (p := ⟨g10, 1, none⟩) hs10 (.slice TA nT cT)
                    obtain ⟨x51, hx51⟩ : ∃ x, (x50.setCell ⟨g10, 0, none⟩ (.bool bT)).setCell ⟨g10, 1, none⟩ (.slice TA nT cT) = x := ⟨_, rfl⟩
                    rw [hx51] at hC b0 b1 n9 n10 zp zq zB zS zT ⊢
                    clear hx51
                    clear hH
                    refine hK.out _ _ (cellsD4 b0 b1) (fun hH => ?_)
                    clear hK K
                    (try simp only [List.getElem_toArray, List.getElem_cons_zero, List.getElem_cons_succ, Act.put, List.setIfInBounds_toArray, List.set_cons_zero, List.set_cons_succ])
                    refine wpAnyH_take (i := 13) (v := ?_) rfl (by kernel_rfl) (by kernel_rfl) (by kernel_rfl) (fun _ _ _ h => h) (Or.inl ⟨by rfl, ?_⟩) (by assumption) ?_
                    rotate_left
                    · intro w' hSw
                      (try dsimp only at hSw)
                      obtain ⟨q0, q1, q2, q3⟩ := hSw
                      go_simp
                      try with_reducible rfl
                    (try simp only [List.getElem_toArray, List.getElem_cons_zero, List.getElem_cons_succ, Act.put, List.setIfInBounds_toArray, List.set_cons_zero, List.set_cons_succ])
                    refine wpAnyH_done (by kernel_rfl) ?_ _
                    clear hH
                    go_wp2
                    go_meet
                    exact ⟨rfl, g9, g10, bS, SA, nS, cS, bT, TA, nT, cT, rfl, rfl, hs9, hs10, by omega, n9, n10, zS, zT, hC⟩
                  exact AllReadyH.nil
                exact AllReadyH.nil
              exact AllReadyH.nil
            exact AllReadyH.nil
          exact AllReadyH.nil
        refine AllReadyH.cons rfl (fun K hK => ?_) ?_
        · skip
          go_simp
          have n10 := Blk.new x0 26 #[.bool false, .slice none 0 0]
          have hb52 : Below x0.heap.size x0 (x0.alloc (.cells #[.bool false, .slice none 0 0] 26)) := (Below.refl _ _).alloc (Nat.le_refl _) _
          obtain ⟨x52, hx52⟩ : ∃ x, x0.alloc (.cells #[.bool false, .slice none 0 0] 26) = x := ⟨_, rfl⟩
          obtain ⟨g10, hg10⟩ : ∃ g, x0.heap.size = g := ⟨_, rfl⟩
          have hs10 : wc.heap.size ≤ g10 := by rw [← hg10]; exact hC.size
          replace b0 := b0.below hb52 b0.lt
          replace b1 := b1.below hb52 b1.lt
          replace zp := zp.below hb52
          replace zq := zq.below hb52
          replace hC := hC.trans (hb52.mono hC.size)
          clear hb52
          rw [hx52] at n10 hC b0 b1 zp zq ⊢
          rw [hg10] at n10 ⊢
          clear hx52 hg10
          clear hH
          refine hK.out _ _ (cellsD4 b0 b1) (fun hH => ?_)
          clear hK K
          (try simp only [List.getElem_toArray, List.getElem_cons_zero, List.getElem_cons_succ, Act.put, List.setIfInBounds_toArray, List.set_cons_zero, List.set_cons_succ])
          refine wpAnyH_ready (rs := [2, 9]) (by kernel_rfl) (by simp) ?_
          refine AllReadyH.cons rfl (fun K hK => ?_) ?_
          · skip
            go_simp
            refine (sumv zp zq kzp_.out kzq_.out kB_.out).mono ?_
            rintro e x53 ⟨vB, rfl, zB, hb53⟩
            replace b0 := b0.below hb53 b0.lt
            replace b1 := b1.below hb53 b1.lt
            replace n10 := n10.below hb53 n10.lt
            replace zp := zp.below hb53
            replace zq := zq.below hb53
            replace hC := hC.trans (hb53.mono hC.size)
            clear hb53
            clear hH
            refine hK.out _ _ (cellsD4 b0 b1) (fun hH => ?_)
            clear hK K
            (try simp only [List.getElem_toArray, List.getElem_cons_zero, List.getElem_cons_succ, Act.put, List.setIfInBounds_toArray, List.set_cons_zero, List.set_cons_succ])
            refine wpAnyH_ready (rs := [4, 9]) (by kernel_rfl) (by simp) ?_
            refine AllReadyH.cons rfl (fun K hK => ?_) ?_
            · skip
              go_simp
              refine (HDV2.out _ _ _ zB zq).mono ?_
              rintro e x54 ⟨bS, SA, nS, cS, bT, TA, nT, cT, rfl, zS, zT, hb54⟩
              replace b0 := b0.below hb54 b0.lt
              replace b1 := b1.below hb54 b1.lt
              replace n10 := n10.below hb54 n10.lt
              replace zp := zp.below hb54
              replace zq := zq.below hb54
              replace zB := zB.below hb54
              replace hC := hC.trans (hb54.mono hC.size)
              clear hb54
              clear hH
              refine hK.out _ _ (cellsD4 b0 b1) (fun hH => ?_)
              clear hK K
              (try simp only [List.getElem_toArray, List.getElem_cons_zero, List.getElem_cons_succ, Act.put, List.setIfInBounds_toArray, List.set_cons_zero, List.set_cons_succ])
              refine wpAnyH_take (i := 5) (v := ?_) rfl (by kernel_rfl) (by kernel_rfl) (by kernel_rfl) (fun _ _ _ h => h) (Or.inl ⟨by rfl, ?_⟩) (by assumption) ?_
              rotate_left
              · intro w' hSw
                (try dsimp only at hSw)
                obtain ⟨q0, q1, q2, q3⟩ := hSw
                go_simp
                try with_reducible rfl
              (try simp only [List.getElem_toArray, List.getElem_cons_zero, List.getElem_cons_succ, Act.put, List.setIfInBounds_toArray, List.set_cons_zero, List.set_cons_succ])
              refine wpAnyH_take (i := 6) (v := ?_) rfl (by kernel_rfl) (by kernel_rfl) (by kernel_rfl) (fun _ _ _ h => h) (Or.inl ⟨by rfl, ?_⟩) (by assumption) ?_
              rotate_left
              · intro w' hSw
                (try dsimp only at hSw)
                obtain ⟨q0, q1, q2, q3⟩ := hSw
                go_simp
                try with_reducible rfl
              (try simp only [List.getElem_toArray, List.getElem_cons_zero, List.getElem_cons_succ, Act.put, List.setIfInBounds_toArray, List.set_cons_zero, List.set_cons_succ])
              refine wpAnyH_take (i := 7) (v := ?_) rfl (by kernel_rfl) (by kernel_rfl) (by kernel_rfl) (fun _ _ _ h => h) (Or.inl ⟨by rfl, ?_⟩) (by assumption) ?_
              rotate_left
              · intro w' hSw
                (try dsimp only at hSw)
                obtain ⟨q0, q1, q2, q3⟩ := hSw
                go_simp
                try with_reducible rfl
              (try simp only [List.getElem_toArray, List.getElem_cons_zero, List.getElem_cons_succ, Act.put, List.setIfInBounds_toArray, List.set_cons_zero, List.set_cons_succ])
              refine wpAnyH_take (i := 8) (v := ?_) rfl (by kernel_rfl) (by kernel_rfl) (by kernel_rfl) (fun _ _ _ h => h) (Or.inl ⟨by rfl, ?_⟩) (by assumption) ?_
              rotate_left
              · intro w' hSw
                (try dsimp only at hSw)
                obtain ⟨q0, q1, q2, q3⟩ := hSw
                go_simp
                try with_reducible rfl
              (try simp only [List.getElem_toArray, List.getElem_cons_zero, List.getElem_cons_succ, Act.put, List.setIfInBounds_toArray, List.set_cons_zero, List.set_cons_succ])
              refine wpAnyH_ready (rs := [9]) (by kernel_rfl) (by simp) ?_
              refine AllReadyH.cons rfl (fun K hK => ?_) ?_
              · skip
                go_simp
                have n9 := Blk.new x54 26 #[.bool false, .slice none 0 0]
                have hb55 : Below x54.heap.size x54 (x54.alloc (.cells #[.bool false, .slice none 0 0] 26)) := (Below.refl _ _).alloc (Nat.le_refl _) _
                obtain ⟨x55, hx55⟩ : ∃ x, x54.alloc (.cells #[.bool false, .slice none 0 0] 26) = x := ⟨_, rfl⟩
                obtain ⟨g9, hg9⟩ : ∃ g, x54.heap.size = g := ⟨_, rfl⟩
                have hs9 : wc.heap.size ≤ g9 := by rw [← hg9]; exact hC.size
                have ne10_9 : g10 ≠ g9 := by have := n10.lt; omega
                replace b0 := b0.below hb55 b0.lt
                replace b1 := b1.below hb55 b1.lt
                replace n10 := n10.below hb55 n10.lt
                replace zp := zp.below hb55
                replace zq := zq.below hb55
                replace zB := zB.below hb55
                replace zS := zS.below hb55
                replace zT := zT.below hb55
                replace hC := hC.trans (hb55.mono hC.size)
                clear hb55
                rw [hx55] at n9 hC b0 b1 n10 zp zq zB zS zT ⊢
                rw [hg9] at n9 ⊢
                clear hx55 hg9
                clear hH
                refine hK.out _ _ (cellsD4 b0 b1) (fun hH => ?_)
                clear hK K
                (try simp only [List.getElem_toArray, List.getElem_cons_zero, List.getElem_cons_succ, Act.put, List.setIfInBounds_toArray, List.set_cons_zero, List.set_cons_succ])
                refine wpAnyH_ready (rs := [11]) (by kernel_rfl) (by simp) ?_
                refine AllReadyH.cons rfl (fun K hK => ?_) ?_
                · skip
                  have p056 := (n9.cell 0).trans (b := some (Value.bool false)) rfl
                  have p156 := (n9.cell 1).trans (b := some (Value.slice none 0 0)) rfl
                  have p256 := n9.frozen 0
                  have p356 := n9.frozen 1
                  have p456 := n9.lt
                  go_simp
                  clear p056 p156 p256 p356 p456
                  replace zp := whz_store2 zp n9 bS SA nS cS
                  replace zq := whz_store2 zq n9 bS SA nS cS
                  replace zB := whz_store2 zB n9 bS SA nS cS
                  replace zS := whz_store2 zS n9 bS SA nS cS
                  replace zT := whz_store2 zT n9 bS SA nS cS
                  replace b0 := (b0.far (p := ⟨g9, 0, none⟩) (show w.heap.size ≠ g9 by omega) (.bool bS)).far (p := ⟨g9, 1, none⟩) (show w.heap.size ≠ g9 by omega) (.slice SA nS cS)
                  replace b1 := (b1.far (p := ⟨g9, 0, none⟩) (show (w.heap.size + 1) ≠ g9 by omega) (.bool bS)).far (p := ⟨g9, 1, none⟩) (show (w.heap.size + 1) ≠ g9 by omega) (.slice SA nS cS)
                  replace n10 := (n10.far (p := ⟨g9, 0, none⟩) (show g10 ≠ g9 by omega) (.bool bS)).far (p := ⟨g9, 1, none⟩) (show g10 ≠ g9 by omega) (.slice SA nS cS)
                  replace n9 := (n9.set_ 0 (.bool bS)).set_ 1 (.slice SA nS cS)
                  replace hC := (hC.setCell (p := ⟨g9, 0, none⟩) hs9 (.bool bS)).setCell (p := ⟨g9, 1, none⟩) hs9 (.slice SA nS cS)
                  obtain ⟨x56, hx56⟩ : ∃ x, (x55.setCell ⟨g9, 0, none⟩ (.bool bS)).setCell ⟨g9, 1, none⟩ (.slice SA nS cS) = x := ⟨_, rfl⟩
                  rw [hx56] at hC b0 b1 n10 n9 zp zq zB zS zT ⊢
                  clear hx56
                  clear hH
                  refine hK.out _ _ (cellsD4 b0 b1) (fun hH => ?_)
                  clear hK K
                  (try simp only [List.getElem_toArray, List.getElem_cons_zero, List.getElem_cons_succ, Act.put, List.setIfInBounds_toArray, List.set_cons_zero, List.set_cons_succ])
                  refine wpAnyH_ready (rs := [12]) (by kernel_rfl) (by simp) ?_
                  refine AllReadyH.cons rfl (fun K hK => ?_) ?_
                  · skip
                    have p057 := (n10.cell 0).trans (b := some (Value.bool false)) rfl
                    have p157 := (n10.cell 1).trans (b := some (Value.slice none 0 0)) rfl
                    have p257 := n10.frozen 0
                    have p357 := n10.frozen 1
                    have p457 := n10.lt
                    go_simp
                    clear p057 p157 p257 p357 p457
                    replace zp := whz_store2 zp n10 bT TA nT cT
                    replace zq := whz_store2 zq n10 bT TA nT cT
                    replace zB := whz_store2 zB n10 bT TA nT cT
                    replace zS := whz_store2 zS n10 bT TA nT cT
                    replace zT := whz_store2 zT n10 bT TA nT cT
                    replace b0 := (b0.far (p := ⟨g10, 0, none⟩) (show w.heap.size ≠ g10 by omega) (.bool bT)).far (p := ⟨g10, 1, none⟩) (show w.heap.size ≠ g10 by omega) (.slice TA nT cT)
                    replace b1 := (b1.far (p := ⟨g10, 0, none⟩) (show (w.heap.size + 1) ≠ g10 by omega) (.bool bT)).far (p := ⟨g10, 1, none⟩) (show (w.heap.size + 1) ≠ g10 by omega) (.slice TA nT cT)
                    replace n9 := (n9.far (p := ⟨g10, 0, none⟩) (show g9 ≠ g10 by omega) (.bool bT)).far (p := ⟨g10, 1, none⟩) (show g9 ≠ g10 by omega) (.slice TA nT cT)
                    replace n10 := (n10.set_ 0 (.bool bT)).set_ 1 (.slice TA nT cT)
                    replace hC := (hC.setCell (p := ⟨g10, 0, none⟩) hs10 (.bool bT)).setCell (p := ⟨g10, 1, none⟩) hs10 (.slice TA nT cT)
                    obtain ⟨x57, hx57⟩ : ∃ x, (x56.setCell ⟨g10, 0, none⟩ (.bool bT)).setCell ⟨g10, 1, none⟩ (.slice TA nT cT) = x := ⟨_, rfl⟩
                    rw [hx57] at hC b0 b1 n10 n9 zp zq zB zS zT ⊢
                    clear hx57
                    clear hH
                    refine hK.out _ _ (cellsD4 b0 b1) (fun hH => ?_)
                    clear hK K
                    (try simp only [List.getElem_toArray, List.getElem_cons_zero, List.getElem_cons_succ, Act.put, List.setIfInBounds_toArray, List.set_cons_zero, List.set_cons_succ])
                    refine wpAnyH_take (i := 13) (v := ?_) rfl (by kernel_rfl) (by kernel_rfl) (by kernel_rfl) (fun _ _ _ h => h) (Or.inl ⟨by rfl, ?_⟩) (by assumption) ?_
                    rotate_left
                    · intro w' hSw
                      (try dsimp only at hSw)
                      obtain ⟨q0, q1, q2, q3⟩ := hSw
                      go_simp
                      try with_reducible rfl
                    (try simp only [List.getElem_toArray, List.getElem_cons_zero, List.getElem_cons_succ, Act.put, List.setIfInBounds_toArray, List.set_cons_zero, List.set_cons_succ])
                    refine wpAnyH_done (by kernel_rfl) ?_ _
                    clear hH
                    go_wp2
                    go_meet
                    exact ⟨rfl, g9, g10, bS, SA, nS, cS, bT, TA, nT, cT, rfl, rfl, hs9, hs10, by omega, n9, n10, zS, zT, hC⟩
                  exact AllReadyH.nil
                exact AllReadyH.nil
              exact AllReadyH.nil
            refine AllReadyH.cons rfl (fun K hK => ?_) ?_
            · skip
              go_simp
              have n9 := Blk.new x53 26 #[.bool false, .slice none 0 0]
              have hb58 : Below x53.heap.size x53 (x53.alloc (.cells #[.bool false, .slice none 0 0] 26)) := (Below.refl _ _).alloc (Nat.le_refl _) _
              obtain ⟨x58, hx58⟩ : ∃ x, x53.alloc (.cells #[.bool false, .slice none 0 0] 26) = x := ⟨_, rfl⟩
              obtain ⟨g9, hg9⟩ : ∃ g, x53.heap.size = g := ⟨_, rfl⟩
              have hs9 : wc.heap.size ≤ g9 := by rw [← hg9]; exact hC.size
              have ne10_9 : g10 ≠ g9 := by have := n10.lt; omega
              replace b0 := b0.below hb58 b0.lt
              replace b1 := b1.below hb58 b1.lt
              replace n10 := n10.below hb58 n10.lt
              replace zp := zp.below hb58
              replace zq := zq.below hb58
              replace zB := zB.below hb58
              replace hC := hC.trans (hb58.mono hC.size)
              clear hb58
              rw [hx58] at n9 hC b0 b1 n10 zp zq zB ⊢
              rw [hg9] at n9 ⊢
              clear hx58 hg9
              clear hH
              refine hK.out _ _ (cellsD4 b0 b1) (fun hH => ?_)
              clear hK K
              (try simp only [List.getElem_toArray, List.getElem_cons_zero, List.getElem_cons_succ, Act.put, List.setIfInBounds_toArray, List.set_cons_zero, List.set_cons_succ])
              refine wpAnyH_ready (rs := [4]) (by kernel_rfl) (by simp) ?_
              refine AllReadyH.cons rfl (fun K hK => ?_) ?_
              · skip
                go_simp
                refine (HDV2.out _ _ _ zB zq).mono ?_
                rintro e x59 ⟨bS, SA, nS, cS, bT, TA, nT, cT, rfl, zS, zT, hb59⟩
                replace b0 := b0.below hb59 b0.lt
                replace b1 := b1.below hb59 b1.lt
                replace n10 := n10.below hb59 n10.lt
                replace n9 := n9.below hb59 n9.lt
                replace zp := zp.below hb59
                replace zq := zq.below hb59
                replace zB := zB.below hb59
                replace hC := hC.trans (hb59.mono hC.size)
                clear hb59
                clear hH
                refine hK.out _ _ (cellsD4 b0 b1) (fun hH => ?_)
                clear hK K
                (try simp only [List.getElem_toArray, List.getElem_cons_zero, List.getElem_cons_succ, Act.put, List.setIfInBounds_toArray, List.set_cons_zero, List.set_cons_succ])
                refine wpAnyH_take (i := 5) (v := ?_) rfl (by kernel_rfl) (by kernel_rfl) (by kernel_rfl) (fun _ _ _ h => h) (Or.inl ⟨by rfl, ?_⟩) (by assumption) ?_
                rotate_left
                · intro w' hSw
                  (try dsimp only at hSw)
                  obtain ⟨q0, q1, q2, q3⟩ := hSw
                  go_simp
                  try with_reducible rfl
                (try simp only [List.getElem_toArray, List.getElem_cons_zero, List.getElem_cons_succ, Act.put, List.setIfInBounds_toArray, List.set_cons_zero, List.set_cons_succ])
                refine wpAnyH_take (i := 6) (v := ?_) rfl (by kernel_rfl) (by kernel_rfl) (by kernel_rfl) (fun _ _ _ h => h) (Or.inl ⟨by rfl, ?_⟩) (by assumption) ?_
                rotate_left
                · intro w' hSw
                  (try dsimp only at hSw)
                  obtain ⟨q0, q1, q2, q3⟩ := hSw
                  go_simp
                  try with_reducible rfl
                (try simp only [List.getElem_toArray, List.getElem_cons_zero, List.getElem_cons_succ, Act.put, List.setIfInBounds_toArray, List.set_cons_zero, List.set_cons_succ])
                refine wpAnyH_take (i := 7) (v := ?_) rfl (by kernel_rfl) (by kernel_rfl) (by kernel_rfl) (fun _ _ _ h => h) (Or.inl ⟨by rfl, ?_⟩) (by assumption) ?_
                rotate_left
                · intro w' hSw
                  (try dsimp only at hSw)
                  obtain ⟨q0, q1, q2, q3⟩ := hSw
                  go_simp
                  try with_reducible rfl
                (try simp only [List.getElem_toArray, List.getElem_cons_zero, List.getElem_cons_succ, Act.put, List.setIfInBounds_toArray, List.set_cons_zero, List.set_cons_succ])
                refine wpAnyH_take (i := 8) (v := ?_) rfl (by kernel_rfl) (by kernel_rfl) (by kernel_rfl) (fun _ _ _ h => h) (Or.inl ⟨by rfl, ?_⟩) (by assumption) ?_
                rotate_left
                · intro w' hSw
                  (try dsimp only at hSw)
                  obtain ⟨q0, q1, q2, q3⟩ := hSw
                  go_simp
                  try with_reducible rfl
                (try simp only [List.getElem_toArray, List.getElem_cons_zero, List.getElem_cons_succ, Act.put, List.setIfInBounds_toArray, List.set_cons_zero, List.set_cons_succ])
                refine wpAnyH_ready (rs := [11]) (by kernel_rfl) (by simp) ?_
                refine AllReadyH.cons rfl (fun K hK => ?_) ?_
                · skip
                  have p060 := (n9.cell 0).trans (b := some (Value.bool false)) rfl
                  have p160 := (n9.cell 1).trans (b := some (Value.slice none 0 0)) rfl
                  have p260 := n9.frozen 0
                  have p360 := n9.frozen 1
                  have p460 := n9.lt
                  go_simp
                  clear p060 p160 p260 p360 p460
                  replace zp := whz_store2 zp n9 bS SA nS cS
                  replace zq := whz_store2 zq n9 bS SA nS cS
                  replace zB := whz_store2 zB n9 bS SA nS cS
                  replace zS := whz_store2 zS n9 bS SA nS cS
                  replace zT := whz_store2 zT n9 bS SA nS cS
                  replace b0 := (b0.far (p := ⟨g9, 0, none⟩) (show w.heap.size ≠ g9 by omega) (.bool bS)).far (p := ⟨g9, 1, none⟩) (show w.heap.size ≠ g9 by omega) (.slice SA nS cS)
                  replace b1 := (b1.far (p := ⟨g9, 0, none⟩) (show (w.heap.size + 1) ≠ g9 by omega) (.bool bS)).far (p := ⟨g9, 1, none⟩) (show (w.heap.size + 1) ≠ g9 by omega) (.slice SA nS cS)
                  replace n10 := (n10.far (p := ⟨g9, 0, none⟩) (show g10 ≠ g9 by omega) (.bool bS)).far (p := ⟨g9, 1, none⟩) (show g10 ≠ g9 by omega) (.slice SA nS cS)
                  replace n9 := (n9.set_ 0 (.bool bS)).set_ 1 (.slice SA nS cS)
                  replace hC := (hC.setCell (p := ⟨g9, 0, none⟩) hs9 (.bool bS)).setCell (p := ⟨g9, 1, none⟩) hs9 (.slice SA nS cS)
                  obtain ⟨x60, hx60⟩ : ∃ x, (x59.setCell ⟨g9, 0, none⟩ (.bool bS)).setCell ⟨g9, 1, none⟩ (.slice SA nS cS) = x := ⟨_, rfl⟩
                  rw [hx60] at hC b0 b1 n10 n9 zp zq zB zS zT ⊢
                  clear hx60
                  clear hH
                  refine hK.out _ _ (cellsD4 b0 b1) (fun hH => ?_)
                  clear hK K
                  (try simp only [List.getElem_toArray, List.getElem_cons_zero, List.getElem_cons_succ, Act.put, List.setIfInBounds_toArray, List.set_cons_zero, List.set_cons_succ])
                  refine wpAnyH_ready (rs := [12]) (by kernel_rfl) (by simp) ?_
                  refine AllReadyH.cons rfl (fun K hK => ?_) ?_
                  · skip
                    have p061 := (n10.cell 0).trans (b := some (Value.bool false)) rfl
                    have p161 := (n10.cell 1).trans (b := some (Value.slice none 0 0)) rfl
                    have p261 := n10.frozen 0
                    have p361 := n10.frozen 1
                    have p461 := n10.lt
                    go_simp
                    clear p061 p161 p261 p361 p461
                    replace zp := whz_store2 zp n10 bT TA nT cT
                    replace zq := whz_store2 zq n10 bT TA nT cT
                    replace zB := whz_store2 zB n10 bT TA nT cT
                    replace zS := whz_store2 zS n10 bT TA nT cT
                    replace zT := whz_store2 zT n10 bT TA nT cT
                    replace b0 := (b0.far (p := ⟨g10, 0, none⟩) (show w.heap.size ≠ g10 by omega) (.bool bT)).far (p := ⟨g10, 1, none⟩) (show w.heap.size ≠ g10 by omega) (.slice TA nT cT)
                    replace b1 := (b1.far (p := ⟨g10, 0, none⟩) (show (w.heap.size + 1) ≠ g10 by omega) (.bool bT)).far (p := ⟨g10, 1, none⟩) (show (w.heap.size + 1) ≠ g10 by omega) (.slice TA nT cT)
                    replace n9 := (n9.far (p := ⟨g10, 0, none⟩) (show g9 ≠ g10 by omega) (.bool bT)).far (p := ⟨g10, 1, none⟩) (show g9 ≠ g10 by omega) (.slice TA nT cT)
                    replace n10 := (n10.set_ 0 (.bool bT)).set_ 1 (.slice TA nT cT)
                    replace hC := (hC.setCell (p := ⟨g10, 0, none⟩) hs10 (.bool bT)).setCell (p := ⟨g10, 1, none⟩) hs10 (.slice TA nT cT)
                    obtain ⟨x61, hx61⟩ : ∃ x, (x60.setCell ⟨g10, 0, none⟩ (.bool bT)).setCell ⟨g10, 1, none⟩ (.slice TA nT cT) = x := ⟨_, rfl⟩
                    rw [hx61] at hC b0 b1 n10 n9 zp zq zB zS zT ⊢
                    clear hx61
                    clear hH
                    refine hK.out _ _ (cellsD4 b0 b1) (fun hH => ?_)
                    clear hK K
                    (try simp only [List.getElem_toArray, List.getElem_cons_zero, List.getElem_cons_succ, Act.put, List.setIfInBounds_toArray, List.set_cons_zero, List.set_cons_succ])
                    refine wpAnyH_take (i := 13) (v := ?_) rfl (by kernel_rfl) (by kernel_rfl) (by kernel_rfl) (fun _ _ _ h => h) (Or.inl ⟨by rfl, ?_⟩) (by assumption) ?_
                    rotate_left
                    · intro w' hSw
                      (try dsimp only at hSw)
                      obtain ⟨q0, q1, q2, q3⟩ := hSw
                      go_simp
                      try with_reducible rfl
                    (try simp only [List.getElem_toArray, List.getElem_cons_zero, List.getElem_cons_succ, Act.put, List.setIfInBounds_toArray, List.set_cons_zero, List.set_cons_succ])
                    refine wpAnyH_done (by kernel_rfl) ?_ _
                    clear hH
                    go_wp2
                    go_meet
                    exact ⟨rfl, g9, g10, bS, SA, nS, cS, bT, TA, nT, cT, rfl, rfl, hs9, hs10, by omega, n9, n10, zS, zT, hC⟩
                  exact AllReadyH.nil
                exact AllReadyH.nil
              exact AllReadyH.nil
            exact AllReadyH.nil
          refine AllReadyH.cons rfl (fun K hK => ?_) ?_
          · skip
            go_simp
            have n9 := Blk.new x52 26 #[.bool false, .slice none 0 0]
            have hb62 : Below x52.heap.size x52 (x52.alloc (.cells #[.bool false, .slice none 0 0] 26)) := (Below.refl _ _).alloc (Nat.le_refl _) _
            obtain ⟨x62, hx62⟩ : ∃ x, x52.alloc (.cells #[.bool false, .slice none 0 0] 26) = x := ⟨_, rfl⟩
            obtain ⟨g9, hg9⟩ : ∃ g, x52.heap.size = g := ⟨_, rfl⟩
            have hs9 : wc.heap.size ≤ g9 := by rw [← hg9]; exact hC.size
            have ne10_9 : g10 ≠ g9 := by have := n10.lt; omega
            replace b0 := b0.below hb62 b0.lt
            replace b1 := b1.below hb62 b1.lt
            replace n10 := n10.below hb62 n10.lt
            replace zp := zp.below hb62
            replace zq := zq.below hb62
            replace hC := hC.trans (hb62.mono hC.size)
            clear hb62
            rw [hx62] at n9 hC b0 b1 n10 zp zq ⊢
            rw [hg9] at n9 ⊢
            clear hx62 hg9
            clear hH
            refine hK.out _ _ (cellsD4 b0 b1) (fun hH => ?_)
            clear hK K
            (try simp only [List.getElem_toArray, List.getElem_cons_zero, List.getElem_cons_succ, Act.put, List.setIfInBounds_toArray, List.set_cons_zero, List.set_cons_succ])
            refine wpAnyH_ready (rs := [2]) (by kernel_rfl) (by simp) ?_
            refine AllReadyH.cons rfl (fun K hK => ?_) ?_
            · skip
              go_simp
              refine (sumv zp zq kzp_.out kzq_.out kB_.out).mono ?_
              rintro e x63 ⟨vB, rfl, zB, hb63⟩
              replace b0 := b0.below hb63 b0.lt
              replace b1 := b1.below hb63 b1.lt
              replace n10 := n10.below hb63 n10.lt
              replace n9 := n9.below hb63 n9.lt
              replace zp := zp.below hb63
              replace zq := zq.below hb63
              replace hC := hC.trans (hb63.mono hC.size)
              clear hb63
              clear hH
              refine hK.out _ _ (cellsD4 b0 b1) (fun hH => ?_)
              clear hK K
              (try simp only [List.getElem_toArray, List.getElem_cons_zero, List.getElem_cons_succ, Act.put, List.setIfInBounds_toArray, List.set_cons_zero, List.set_cons_succ])
              refine wpAnyH_ready (rs := [4]) (by kernel_rfl) (by simp) ?_
              refine AllReadyH.cons rfl (fun K hK => ?_) ?_
              · skip
                go_simp
                refine (HDV2.out _ _ _ zB zq).mono ?_
                rintro e x64 ⟨bS, SA, nS, cS, bT, TA, nT, cT, rfl, zS, zT, hb64⟩
                replace b0 := b0.below hb64 b0.lt
                replace b1 := b1.below hb64 b1.lt
                replace n10 := n10.below hb64 n10.lt
                replace n9 := n9.below hb64 n9.lt
                replace zp := zp.below hb64
                replace zq := zq.below hb64
                replace zB := zB.below hb64
                replace hC := hC.trans (hb64.mono hC.size)
                clear hb64
                clear hH
                refine hK.out _ _ (cellsD4 b0 b1) (fun hH => ?_)
                clear hK K
                (try simp only [List.getElem_toArray, List.getElem_cons_zero, List.getElem_cons_succ, Act.put, List.setIfInBounds_toArray, List.set_cons_zero, List.set_cons_succ])
                refine wpAnyH_take (i := 5) (v := ?_) rfl (by kernel_rfl) (by kernel_rfl) (by kernel_rfl) (fun _ _ _ h => h) (Or.inl ⟨by rfl, ?_⟩) (by assumption) ?_
                rotate_left
                · intro w' hSw
                  (try dsimp only at hSw)
                  obtain ⟨q0, q1, q2, q3⟩ := hSw
                  go_simp
                  try with_reducible rfl
                (try simp only [List.getElem_toArray, List.getElem_cons_zero, List.getElem_cons_succ, Act.put, List.setIfInBounds_toArray, List.set_cons_zero, List.set_cons_succ])
                refine wpAnyH_take (i := 6) (v := ?_) rfl (by kernel_rfl) (by kernel_rfl) (by kernel_rfl) (fun _ _ _ h => h) (Or.inl ⟨by rfl, ?_⟩) (by assumption) ?_
                rotate_left
                · intro w' hSw
                  (try dsimp only at hSw)
                  obtain ⟨q0, q1, q2, q3⟩ := hSw
                  go_simp
                  try with_reducible rfl
                (try simp only [List.getElem_toArray, List.getElem_cons_zero, List.getElem_cons_succ, Act.put, List.setIfInBounds_toArray, List.set_cons_zero, List.set_cons_succ])
                refine wpAnyH_take (i := 7) (v := ?_) rfl (by kernel_rfl) (by kernel_rfl) (by kernel_rfl) (fun _ _ _ h => h) (Or.inl ⟨by rfl, ?_⟩) (by assumption) ?_
                rotate_left
                · intro w' hSw
                  (try dsimp only at hSw)
                  obtain ⟨q0, q1, q2, q3⟩ := hSw
                  go_simp
                  try with_reducible rfl
                (try simp only [List.getElem_toArray, List.getElem_cons_zero, List.getElem_cons_succ, Act.put, List.setIfInBounds_toArray, List.set_cons_zero, List.set_cons_succ])
                refine wpAnyH_take (i := 8) (v := ?_) rfl (by kernel_rfl) (by kernel_rfl) (by kernel_rfl) (fun _ _ _ h => h) (Or.inl ⟨by rfl, ?_⟩) (by assumption) ?_
                rotate_left
                · intro w' hSw
                  (try dsimp only at hSw)
                  obtain ⟨q0, q1, q2, q3⟩ := hSw
                  go_simp
                  try with_reducible rfl
                (try simp only [List.getElem_toArray, List.getElem_cons_zero, List.getElem_cons_succ, Act.put, List.setIfInBounds_toArray, List.set_cons_zero, List.set_cons_succ])
                refine wpAnyH_ready (rs := [11]) (by kernel_rfl) (by simp) ?_
                refine AllReadyH.cons rfl (fun K hK => ?_) ?_
                · skip
                  have p065 := (n9.cell 0).trans (b := some (Value.bool false)) rfl
                  have p165 := (n9.cell 1).trans (b := some (Value.slice none 0 0)) rfl
                  have p265 := n9.frozen 0
                  have p365 := n9.frozen 1
                  have p465 := n9.lt
                  go_simp
                  clear p065 p165 p265 p365 p465
                  replace zp := whz_store2 zp n9 bS SA nS cS
                  replace zq := whz_store2 zq n9 bS SA nS cS
                  replace zB := whz_store2 zB n9 bS SA nS cS
                  replace zS := whz_store2 zS n9 bS SA nS cS
                  replace zT := whz_store2 zT n9 bS SA nS cS
                  replace b0 := (b0.far (p := ⟨g9, 0, none⟩) (show w.heap.size ≠ g9 by omega) (.bool bS)).far (p := ⟨g9, 1, none⟩) (show w.heap.size ≠ g9 by omega) (.slice SA nS cS)
                  replace b1 := (b1.far (p := ⟨g9, 0, none⟩) (show (w.heap.size + 1) ≠ g9 by omega) (.bool bS)).far (p := ⟨g9, 1, none⟩) (show (w.heap.size + 1) ≠ g9 by omega) (.slice SA nS cS)
                  replace n10 := (n10.far (p := ⟨g9, 0, none⟩) (show g10 ≠ g9 by omega) (.bool bS)).far (p := ⟨g9, 1, none⟩) (show g10 ≠ g9 by omega) (.slice SA nS cS)
                  replace n9 := (n9.set_ 0 (.bool bS)).set_ 1 (.slice SA nS cS)
                  replace hC := (hC.setCell (p := ⟨g9, 0, none⟩) hs9 (.bool bS)).setCell (p := ⟨g9, 1, none⟩) hs9 (.slice SA nS cS)
                  obtain ⟨x65, hx65⟩ : ∃ x, (x64.setCell ⟨g9, 0, none⟩ (.bool bS)).setCell ⟨g9, 1, none⟩ (.slice SA nS cS) = x := ⟨_, rfl⟩
                  rw [hx65] at hC b0 b1 n10 n9 zp zq zB zS zT ⊢
                  clear hx65
                  clear hH
                  refine hK.out _ _ (cellsD4 b0 b1) (fun hH => ?_)
                  clear hK K
                  (try simp only [List.getElem_toArray, List.getElem_cons_zero, List.getElem_cons_succ, Act.put, List.setIfInBounds_toArray, List.set_cons_zero, List.set_cons_succ])
                  refine wpAnyH_ready (rs := [12]) (by kernel_rfl) (by simp) ?_
                  refine AllReadyH.cons rfl (fun K hK => ?_) ?_
                  · skip
                    have p066 := (n10.cell 0).trans (b := some (Value.bool false)) rfl
                    have p166 := (n10.cell 1).trans (b := some (Value.slice none 0 0)) rfl
                    have p266 := n10.frozen 0
                    have p366 := n10.frozen 1
                    have p466 := n10.lt
                    go_simp
                    clear p066 p166 p266 p366 p466
                    replace zp := whz_store2 zp n10 bT TA nT cT
                    replace zq := whz_store2 zq n10 bT TA nT cT
                    replace zB := whz_store2 zB n10 bT TA nT cT
                    replace zS := whz_store2 zS n10 bT TA nT cT
                    replace zT := whz_store2 zT n10 bT TA nT cT
                    replace b0 := (b0.far (p := ⟨g10, 0, none⟩) (show w.heap.size ≠ g10 by omega) (.bool bT)).far (p := ⟨g10, 1, none⟩) (show w.heap.size ≠ g10 by omega) (.slice TA nT cT)
                    replace b1 := (b1.far (p := ⟨g10, 0, none⟩) (show (w.heap.size + 1) ≠ g10 by omega) (.bool bT)).far (p := ⟨g10, 1, none⟩) (show (w.heap.size + 1) ≠ g10 by omega) (.slice TA nT cT)
                    replace n9 := (n9.far (p := ⟨g10, 0, none⟩) (show g9 ≠ g10 by omega) (.bool bT)).far (p := ⟨g10, 1, none⟩) (show g9 ≠ g10 by omega) (.slice TA nT cT)
                    replace n10 := (n10.set_ 0 (.bool bT)).set_ 1 (.slice TA nT cT)
                    replace hC := (hC.setCell (p := ⟨g10, 0, none⟩) hs10 (.bool bT)).setCell (p := ⟨g10, 1, none⟩) hs10 (.slice TA nT cT)
                    obtain ⟨x66, hx66⟩ : ∃ x, (x65.setCell ⟨g10, 0, none⟩ (.bool bT)).setCell ⟨g10, 1, none⟩ (.slice TA nT cT) = x := ⟨_, rfl⟩
                    rw [hx66] at hC b0 b1 n10 n9 zp zq zB zS zT ⊢
                    clear hx66
                    clear hH
                    refine hK.out _ _ (cellsD4 b0 b1) (fun hH => ?_)
                    clear hK K
                    (try simp only [List.getElem_toArray, List.getElem_cons_zero, List.getElem_cons_succ, Act.put, List.setIfInBounds_toArray, List.set_cons_zero, List.set_cons_succ])
                    refine wpAnyH_take (i := 13) (v := ?_) rfl (by kernel_rfl) (by kernel_rfl) (by kernel_rfl) (fun _ _ _ h => h) (Or.inl ⟨by rfl, ?_⟩) (by assumption) ?_
                    rotate_left
                    · intro w' hSw
                      (try dsimp only at hSw)
                      obtain ⟨q0, q1, q2, q3⟩ := hSw
                      go_simp
                      try with_reducible rfl
                    (try simp only [List.getElem_toArray, List.getElem_cons_zero, List.getElem_cons_succ, Act.put, List.setIfInBounds_toArray, List.set_cons_zero, List.set_cons_succ])
                    refine wpAnyH_done (by kernel_rfl) ?_ _
                    clear hH
                    go_wp2
                    go_meet
                    exact ⟨rfl, g9, g10, bS, SA, nS, cS, bT, TA, nT, cT, rfl, rfl, hs9, hs10, by omega, n9, n10, zS, zT, hC⟩
                  exact AllReadyH.nil
                exact AllReadyH.nil
              exact AllReadyH.nil
            exact AllReadyH.nil
          exact AllReadyH.nil
        exact AllReadyH.nil
      case rest =>
        obtain ⟨rfl, g10, g11, bS, SA, nS, cS, bT, TA, nT, cT, rfl, rfl, hg10, hg11, hg1011, b10, b11, zS, zT, hcc⟩ := hcut
        have ch8 := ch7.trans (hcc.mono ch7.size)
        replace b0 := b0.below hcc b0.lt
        replace b1 := b1.below hcc b1.lt
        replace b4 := b4.below hcc b4.lt
        replace b5 := b5.below hcc b5.lt
        replace zp := zp.below hcc
        replace zq := zq.below hcc
        replace zQ := zQ.below hcc
        replace zR := zR.below hcc
        clear b0 b1
        clear zp zq
        go_wp2
        have l1_ : Hid (Lz 1 1) := lz_one (by decide)
        have k1_ : Hid (Lz 1024 1) := l1_.out.mono (by omega)
        have kS_ : Hid (Lz 1024 (Q + 1)) := ((HLQ1.out.add (l1_.out.mono (by omega))).mono (by omega))
        replace b4 := b4.drew
        replace b5 := b5.drew
        replace b10 := b10.drew
        replace b11 := b11.drew
        replace zQ := whz_drew zQ
        replace zR := whz_drew zR
        replace zS := whz_drew zS
        replace zT := whz_drew zT
        have ch_67_0 := ch8.drew
        clear ch8
        have kk_67_0 := cellsD8 b4 b5 b10 b11
        refine wp_region_held_drew (S := fun w' => w'.cell? ⟨u3.heap.size, 0, none⟩ = some (.bool qs) ∧ w'.cell? ⟨u3.heap.size, 1, none⟩ = some (.slice QA nQ cQ) ∧ w'.cell? ⟨(u3.heap.size + 1), 0, none⟩ = some (.bool rs) ∧ w'.cell? ⟨(u3.heap.size + 1), 1, none⟩ = some (.slice RA nR cR) ∧ w'.cell? ⟨g10, 0, none⟩ = some (.bool bS) ∧ w'.cell? ⟨g10, 1, none⟩ = some (.slice SA nS cS) ∧ w'.cell? ⟨g11, 0, none⟩ = some (.bool bT) ∧ w'.cell? ⟨g11, 1, none⟩ = some (.slice TA nT cT)) (by kernel_rfl) kk_67_0 (fun hH => ?_)
        clear kk_67_0
        refine wpAnyH_take (i := 0) (v := ?_) rfl (by kernel_rfl) (by kernel_rfl) (by kernel_rfl) (fun _ _ _ h => h) (Or.inl ⟨by rfl, ?_⟩) (by assumption) ?_
        rotate_left
        · intro w' hSw
          (try dsimp only at hSw)
          obtain ⟨q0, q1, q2, q3, q4, q5, q6, q7⟩ := hSw
          go_simp
          try with_reducible rfl
        (try simp only [List.getElem_toArray, List.getElem_cons_zero, List.getElem_cons_succ, Act.put, List.setIfInBounds_toArray, List.set_cons_zero, List.set_cons_succ])
        refine wpAnyH_take (i := 1) (v := ?_) rfl (by kernel_rfl) (by kernel_rfl) (by kernel_rfl) (fun _ _ _ h => h) (Or.inl ⟨by rfl, ?_⟩) (by assumption) ?_
        rotate_left
        · intro w' hSw
          (try dsimp only at hSw)
          obtain ⟨q0, q1, q2, q3, q4, q5, q6, q7⟩ := hSw
          go_simp
          try with_reducible rfl
        (try simp only [List.getElem_toArray, List.getElem_cons_zero, List.getElem_cons_succ, Act.put, List.setIfInBounds_toArray, List.set_cons_zero, List.set_cons_succ])
        refine wpAnyH_take (i := 2) (v := ?_) rfl (by kernel_rfl) (by kernel_rfl) (by kernel_rfl) (fun _ _ _ h => h) (Or.inl ⟨by rfl, ?_⟩) (by assumption) ?_
        rotate_left
        · intro w' hSw
          (try dsimp only at hSw)
          obtain ⟨q0, q1, q2, q3, q4, q5, q6, q7⟩ := hSw
          go_simp
          try with_reducible rfl
        (try simp only [List.getElem_toArray, List.getElem_cons_zero, List.getElem_cons_succ, Act.put, List.setIfInBounds_toArray, List.set_cons_zero, List.set_cons_succ])
        refine wpAnyH_take (i := 3) (v := ?_) rfl (by kernel_rfl) (by kernel_rfl) (by kernel_rfl) (fun _ _ _ h => h) (Or.inl ⟨by rfl, ?_⟩) (by assumption) ?_
        rotate_left
        · intro w' hSw
          (try dsimp only at hSw)
          obtain ⟨q0, q1, q2, q3, q4, q5, q6, q7⟩ := hSw
          go_simp
          try with_reducible rfl
        (try simp only [List.getElem_toArray, List.getElem_cons_zero, List.getElem_cons_succ, Act.put, List.setIfInBounds_toArray, List.set_cons_zero, List.set_cons_succ])
        refine wpAnyH_take (i := 4) (v := ?_) rfl (by kernel_rfl) (by kernel_rfl) (by kernel_rfl) (fun _ _ _ h => h) (Or.inl ⟨by rfl, ?_⟩) (by assumption) ?_
        rotate_left
        · intro w' hSw
          (try dsimp only at hSw)
          obtain ⟨q0, q1, q2, q3, q4, q5, q6, q7⟩ := hSw
          go_simp
          try with_reducible rfl
        (try simp only [List.getElem_toArray, List.getElem_cons_zero, List.getElem_cons_succ, Act.put, List.setIfInBounds_toArray, List.set_cons_zero, List.set_cons_succ])
        refine wpAnyH_ready (rs := [5]) (by kernel_rfl) (by simp) ?_
        refine AllReadyH.cons rfl (fun K hK => ?_) AllReadyH.nil
        go_simp
        refine (num_wh 1 _ (by omega) (by omega)).mono ?_
        rintro e w_67_1 ⟨vzO, rfl, zO, hb_67_1⟩
        replace b4 := b4.below hb_67_1 b4.lt
        replace b5 := b5.below hb_67_1 b5.lt
        replace b10 := b10.below hb_67_1 b10.lt
        replace b11 := b11.below hb_67_1 b11.lt
        replace zQ := zQ.below hb_67_1
        replace zR := zR.below hb_67_1
        replace zS := zS.below hb_67_1
        replace zT := zT.below hb_67_1
        have ch_67_1 := ch_67_0.trans (hb_67_1.mono ch_67_0.size)
        refine hK.out _ _ (cellsD8 b4 b5 b10 b11) (fun hH1 => ?_)
        clear hK K ch_67_0 hb_67_1 hH
        have hH := hH1
        clear hH1
        (try simp only [List.getElem_toArray, List.getElem_cons_zero, List.getElem_cons_succ, Act.put, List.setIfInBounds_toArray, List.set_cons_zero, List.set_cons_succ])
        refine wpAnyH_ready (rs := [6]) (by kernel_rfl) (by simp) ?_
        refine AllReadyH.cons rfl (fun K hK => ?_) AllReadyH.nil
        go_simp
        refine (sumv zQ zO kQ_.out k1_.out kS_.out).mono ?_
        rintro e w_67_2 ⟨vzU, rfl, zU, hb_67_2⟩
        replace b4 := b4.below hb_67_2 b4.lt
        replace b5 := b5.below hb_67_2 b5.lt
        replace b10 := b10.below hb_67_2 b10.lt
        replace b11 := b11.below hb_67_2 b11.lt
        replace zQ := zQ.below hb_67_2
        replace zR := zR.below hb_67_2
        replace zS := zS.below hb_67_2
        replace zT := zT.below hb_67_2
        clear zO
        have ch_67_2 := ch_67_1.trans (hb_67_2.mono ch_67_1.size)
        refine hK.out _ _ (cellsD8 b4 b5 b10 b11) (fun hH2 => ?_)
        clear hK K ch_67_1 hb_67_2 hH
        have hH := hH2
        clear hH2
        (try simp only [List.getElem_toArray, List.getElem_cons_zero, List.getElem_cons_succ, Act.put, List.setIfInBounds_toArray, List.set_cons_zero, List.set_cons_succ])
        refine wpAnyH_ready (rs := [7]) (by kernel_rfl) (by simp) ?_
        refine AllReadyH.cons rfl (fun K hK => ?_) AllReadyH.nil
        go_simp
        refine (equal_l zS zU kS_.out kS_.out rfl).mono ?_
        rintro e w_67_3 ⟨rfl, hb_67_3⟩
        replace b4 := b4.below hb_67_3 b4.lt
        replace b5 := b5.below hb_67_3 b5.lt
        replace b10 := b10.below hb_67_3 b10.lt
        replace b11 := b11.below hb_67_3 b11.lt
        replace zQ := zQ.below hb_67_3
        replace zR := zR.below hb_67_3
        replace zS := zS.below hb_67_3
        replace zT := zT.below hb_67_3
        clear zU
        have ch_67_3 := ch_67_2.trans (hb_67_3.mono ch_67_2.size)
        refine hK.out _ _ (cellsD8 b4 b5 b10 b11) (fun hH3 => ?_)
        clear hK K ch_67_2 hb_67_3 hH
        have hH := hH3
        clear hH3
        (try simp only [List.getElem_toArray, List.getElem_cons_zero, List.getElem_cons_succ, Act.put, List.setIfInBounds_toArray, List.set_cons_zero, List.set_cons_succ])
        refine wpAnyH_take (i := 8) (v := ?_) rfl (by kernel_rfl) (by kernel_rfl) (by kernel_rfl) (fun _ _ _ h => h) (Or.inl ⟨by rfl, ?_⟩) (by assumption) ?_
        rotate_left
        · intro w' hSw
          (try dsimp only at hSw)
          obtain ⟨q0, q1, q2, q3, q4, q5, q6, q7⟩ := hSw
          go_simp
          try with_reducible rfl
        (try simp only [List.getElem_toArray, List.getElem_cons_zero, List.getElem_cons_succ, Act.put, List.setIfInBounds_toArray, List.set_cons_zero, List.set_cons_succ])
        refine wpAnyH_take (i := 9) (v := ?_) rfl (by kernel_rfl) (by kernel_rfl) (by kernel_rfl) (fun _ _ _ h => h) (Or.inl ⟨by rfl, ?_⟩) (by assumption) ?_
        rotate_left
        · intro w' hSw
          (try dsimp only at hSw)
          obtain ⟨q0, q1, q2, q3, q4, q5, q6, q7⟩ := hSw
          go_simp
          try with_reducible rfl
        (try simp only [List.getElem_toArray, List.getElem_cons_zero, List.getElem_cons_succ, Act.put, List.setIfInBounds_toArray, List.set_cons_zero, List.set_cons_succ])
        refine wpAnyH_take (i := 10) (v := ?_) rfl (by kernel_rfl) (by kernel_rfl) (by kernel_rfl) (fun _ _ _ h => h) (Or.inl ⟨by rfl, ?_⟩) (by assumption) ?_
        rotate_left
        · intro w' hSw
          (try dsimp only at hSw)
          obtain ⟨q0, q1, q2, q3, q4, q5, q6, q7⟩ := hSw
          go_simp
          try with_reducible rfl
        (try simp only [List.getElem_toArray, List.getElem_cons_zero, List.getElem_cons_succ, Act.put, List.setIfInBounds_toArray, List.set_cons_zero, List.set_cons_succ])
        refine wpAnyH_take (i := 11) (v := ?_) rfl (by kernel_rfl) (by kernel_rfl) (by kernel_rfl) (fun _ _ _ h => h) (Or.inl ⟨by rfl, ?_⟩) (by assumption) ?_
        rotate_left
        · intro w' hSw
          (try dsimp only at hSw)
          obtain ⟨q0, q1, q2, q3, q4, q5, q6, q7⟩ := hSw
          go_simp
          try with_reducible rfl
        (try simp only [List.getElem_toArray, List.getElem_cons_zero, List.getElem_cons_succ, Act.put, List.setIfInBounds_toArray, List.set_cons_zero, List.set_cons_succ])
        refine wpAnyH_ready (rs := [12]) (by kernel_rfl) (by simp) ?_
        refine AllReadyH.cons rfl (fun K hK => ?_) AllReadyH.nil
        go_simp
        refine (equal_l zT zR kR_.out kR_.out rfl).mono ?_
        rintro e w_67_4 ⟨rfl, hb_67_4⟩
        replace b4 := b4.below hb_67_4 b4.lt
        replace b5 := b5.below hb_67_4 b5.lt
        replace b10 := b10.below hb_67_4 b10.lt
        replace b11 := b11.below hb_67_4 b11.lt
        replace zQ := zQ.below hb_67_4
        replace zR := zR.below hb_67_4
        replace zS := zS.below hb_67_4
        replace zT := zT.below hb_67_4
        have ch_67_4 := ch_67_3.trans (hb_67_4.mono ch_67_3.size)
        refine hK.out _ _ (cellsD8 b4 b5 b10 b11) (fun hH4 => ?_)
        clear hK K ch_67_3 hb_67_4 hH
        have hH := hH4
        clear hH4
        (try simp only [List.getElem_toArray, List.getElem_cons_zero, List.getElem_cons_succ, Act.put, List.setIfInBounds_toArray, List.set_cons_zero, List.set_cons_succ])
        refine wpAnyH_take (i := 13) (v := ?_) rfl (by kernel_rfl) (by kernel_rfl) (by kernel_rfl) (fun _ _ _ h => h) (Or.inl ⟨by rfl, ?_⟩) (by assumption) ?_
        rotate_left
        · intro w' hSw
          (try dsimp only at hSw)
          obtain ⟨q0, q1, q2, q3, q4, q5, q6, q7⟩ := hSw
          go_simp
          try with_reducible rfl
        (try simp only [List.getElem_toArray, List.getElem_cons_zero, List.getElem_cons_succ, Act.put, List.setIfInBounds_toArray, List.set_cons_zero, List.set_cons_succ])
        refine wpAnyH_take (i := 14) (v := ?_) rfl (by kernel_rfl) (by kernel_rfl) (by kernel_rfl) (fun _ _ _ h => h) (Or.inl ⟨by rfl, ?_⟩) (by assumption) ?_
        rotate_left
        · intro w' hSw
          (try dsimp only at hSw)
          obtain ⟨q0, q1, q2, q3, q4, q5, q6, q7⟩ := hSw
          go_simp
          try with_reducible rfl
        (try simp only [List.getElem_toArray, List.getElem_cons_zero, List.getElem_cons_succ, Act.put, List.setIfInBounds_toArray, List.set_cons_zero, List.set_cons_succ])
        refine wpAnyH_done (by kernel_rfl) ?_ _
        clear hH
        have ch9 := ch_67_4
        clear ch_67_4
        go_wp2
        go_ret
        exact ⟨rfl, ch9⟩
end Go.Proofs.Ytgnidjhfiagfnaa
