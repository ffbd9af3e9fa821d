/- WholeGcds' function returns true. Conditions: the numbers lie in memory. -/
import Derived.Test.YtgnidjhfiagfnaaYp
import Derived.Deep.RegionHeld3
import Derived.Deep.CutRange
namespace Go.Proofs.Ytgnidjhfiagfnaa
open Go.RowKit
attribute [local go_sem] Oper.semAt_some

theorem cellsE2 {w : World} {M0 : Nat} {a b : Value} (h0 : Blk w M0 26 #[a, b]) :
    w.cell? ⟨M0, 0, none⟩ = some a ∧ w.cell? ⟨M0, 1, none⟩ = some b :=
  ⟨h0.cell 0, h0.cell 1⟩
theorem cellsE6 {w : World} {M0 M1 M2 : Nat} {a b c d e f : Value} (h0 : Blk w M0 26 #[a, b]) (h1 : Blk w M1 26 #[c, d]) (h2 : Blk w M2 26 #[e, f]) :
    w.cell? ⟨M0, 0, none⟩ = some a ∧ w.cell? ⟨M0, 1, none⟩ = some b ∧ w.cell? ⟨M1, 0, none⟩ = some c ∧ w.cell? ⟨M1, 1, none⟩ = some d ∧ w.cell? ⟨M2, 0, none⟩ = some e ∧ w.cell? ⟨M2, 1, none⟩ = some f :=
  ⟨h0.cell 0, h0.cell 1, h1.cell 0, h1.cell 1, h2.cell 0, h2.cell 1⟩
theorem cellsE8 {w : World} {M0 M1 M2 M3 : Nat} {a b c d e f g h : Value} (h0 : Blk w M0 26 #[a, b]) (h1 : Blk w M1 26 #[c, d]) (h2 : Blk w M2 26 #[e, f]) (h3 : Blk w M3 26 #[g, h]) :
    w.cell? ⟨M0, 0, none⟩ = some a ∧ w.cell? ⟨M0, 1, none⟩ = some b ∧ w.cell? ⟨M1, 0, none⟩ = some c ∧ w.cell? ⟨M1, 1, none⟩ = some d ∧ w.cell? ⟨M2, 0, none⟩ = some e ∧ w.cell? ⟨M2, 1, none⟩ = some f ∧ w.cell? ⟨M3, 0, none⟩ = some g ∧ w.cell? ⟨M3, 1, none⟩ = some h :=
  ⟨h0.cell 0, h0.cell 1, h1.cell 0, h1.cell 1, h2.cell 0, h2.cell 1, h3.cell 0, h3.cell 1⟩

/-- A variable made anew that holds the number z, which is not negative. -/
def OneZ (w wx : World) (v : Value) (z : Int) : Prop := ∃ (g : Nat) (A : Option Addr) (n c : Nat), v = .pointer (some ⟨g, 0, none⟩) ∧ w.heap.size ≤ g ∧
  Blk wx g 26 #[.bool false, .slice A n c] ∧ WhZ wx (.agg #[.bool false, .slice A n c]) z ∧ Below w.heap.size w wx

theorem gcd_to {y z G : Int} (hy : Lz 1024 y) (hz : Lz 1024 z) (h : ((Int.gcd y z : Nat) : Int) = G) : ∀ w va vb, WhZ w va y → WhZ w vb z →
    Calls Try.prog 36 #[va, vb] w fun e w' => ∃ (A : Option Addr) (n c : Nat), e = .returned (.tuple #[.agg #[.bool false, .slice A n c], .int .i64 0]) ∧ WhZ w' (.agg #[.bool false, .slice A n c]) G ∧ Below w.heap.size w w' := by
  intro w va vb hA hB
  refine (gcd_zz hA hB hy hz).mono ?_
  rintro e w1 ⟨v, rfl, h1, h2⟩
  obtain ⟨n, A, c, -, rfl, -⟩ := whz_len h1
  rw [h] at h1
  have h0 : decide ((((Int.gcd y z : Nat) : Int)) < 0) = false := by simp
  rw [h] at h0 ⊢
  rw [h0] at h1 ⊢
  exact ⟨A, n, c, rfl, h1, h2⟩

theorem valid_y {w : World} {v : Value} {z : Int} (h : WhZ w v z) (hz : Lz 1024 z) : Calls Try.prog 20 #[v] w fun e w' => e = .returned (.bool true) ∧ Below w.heap.size w w' := by
  obtain ⟨A, c, rfl, hs⟩ := h
  have := valid_wh (wh_of_sl (x := decide (z < 0)) hs rfl)
  rwa [hz.ok (Nat.le_refl _)] at this

theorem whz_store2 {w : World} {v : Value} {z : Int} (h : WhZ w v z) {g : Nat} {a : Bool} {A : Option Addr} {n c : Nat} (hb : Blk w g 26 #[.bool a, .slice A n c]) (x : Bool) (B : Option Addr) (m d : Nat) : WhZ ((w.setCell ⟨g, 0, none⟩ (.bool x)).setCell ⟨g, 1, none⟩ (.slice B m d)) v z := by
  obtain ⟨A', c', rfl, hs⟩ := h
  exact ⟨A', c', rfl, hs.store2 hb x B m d⟩

theorem whz_none {w : World} {A : Option Addr} {n c : Nat} {x : Bool} {z : Int} (h : WhZ w (.agg #[.bool x, .slice A n c]) z) : n = (digs z.natAbs).length := by
  obtain ⟨A', c', e, -⟩ := h
  injection e with e
  have := congrArg Array.toList e
  simp only [List.cons.injEq, and_true] at this
  have h2 := this.2
  injection h2

set_option maxRecDepth 100000 in
set_option maxHeartbeats 20000000 in
theorem gcd_not {x y z : Bool} {la lb lc : List Nat} {A B C : Option Addr} {na ca nb cb nc cc : Nat} {w : World} (sa : Sl w (.slice A na ca) la) (hna : Hid (la.length = na)) (sb : Sl w (.slice B nb cb) lb) (hnb : Hid (lb.length = nb)) (sc : Sl w (.slice C nc cc) lc) (hnc : Hid (lc.length = nc)) (hu : (uB 40 x la && uB 40 y lb && uB 40 z lc) = false) :
  Calls Try.prog 8 #[.agg #[.bool x, .slice A na ca], .agg #[.bool y, .slice B nb cb], .agg #[.bool z, .slice C nc cc]] w fun e w' => e = .returned (.bool true) ∧ Below w.heap.size w w' := by
  have b0 : Blk (((w.alloc (.cells #[.bool x, .slice A na ca] 26)).alloc (.cells #[.bool y, .slice B nb cb] 26)).alloc (.cells #[.bool z, .slice C nc cc] 26)) w.heap.size 26 #[.bool x, .slice A na ca] := by
    have := (((Blk.new w 26 #[.bool x, .slice A na ca]).alloc (.cells #[.bool y, .slice B nb cb] 26)).alloc (.cells #[.bool z, .slice C nc cc] 26))
    exact this
  have b1 : Blk (((w.alloc (.cells #[.bool x, .slice A na ca] 26)).alloc (.cells #[.bool y, .slice B nb cb] 26)).alloc (.cells #[.bool z, .slice C nc cc] 26)) (w.heap.size + 1) 26 #[.bool y, .slice B nb cb] := by
    have := ((Blk.new (w.alloc (.cells #[.bool x, .slice A na ca] 26)) 26 #[.bool y, .slice B nb cb]).alloc (.cells #[.bool z, .slice C nc cc] 26))
    rwa [World.size_alloc] at this
  have b2 : Blk (((w.alloc (.cells #[.bool x, .slice A na ca] 26)).alloc (.cells #[.bool y, .slice B nb cb] 26)).alloc (.cells #[.bool z, .slice C nc cc] 26)) (w.heap.size + 2) 26 #[.bool z, .slice C nc cc] := by
    have := (Blk.new ((w.alloc (.cells #[.bool x, .slice A na ca] 26)).alloc (.cells #[.bool y, .slice B nb cb] 26)) 26 #[.bool z, .slice C nc cc])
    rwa [World.size_alloc, World.size_alloc] at this
  have bw : Below w.heap.size w (((w.alloc (.cells #[.bool x, .slice A na ca] 26)).alloc (.cells #[.bool y, .slice B nb cb] 26)).alloc (.cells #[.bool z, .slice C nc cc] 26)) := (by repeat (first | exact Below.refl _ _ | assumption | refine Below.alloc ?_ (by first | (simp; done) | (simp; omega) | omega) _ | refine Below.setCell ?_ (by first | (simp; done) | (simp; omega) | omega) _ | refine Below.drew ?_))
  replace sa := sa.below bw
  replace sb := sb.below bw
  replace sc := sc.below bw
  go_enter Try.func8, Try.ntmps8
  go_wp2_with fail
  refine (awake_any _).mono ?_
  rintro e u1 ⟨rfl, h1⟩
  have ch1 := bw.trans (h1.mono bw.size)
  replace b0 := b0.below h1 b0.lt
  replace b1 := b1.below h1 b1.lt
  replace b2 := b2.below h1 b2.lt
  replace sa := sa.below h1
  replace sb := sb.below h1
  replace sc := sc.below h1
  have c0b0 := (b0.cell 0).trans (b := some (Value.bool x)) rfl
  have c1b0 := (b0.cell 1).trans (b := some (Value.slice A na ca)) rfl
  have c0b1 := (b1.cell 0).trans (b := some (Value.bool y)) rfl
  have c1b1 := (b1.cell 1).trans (b := some (Value.slice B nb cb)) rfl
  have c0b2 := (b2.cell 0).trans (b := some (Value.bool z)) rfl
  have c1b2 := (b2.cell 1).trans (b := some (Value.slice C nc cc)) rfl
  have al : Below u1.heap.size u1 (u1.alloc (.cells #[.bool x, .slice A na ca, .bool y, .slice B nb cb, .bool z, .slice C nc cc] 26)) := (Below.refl _ _).alloc (Nat.le_refl _) _
  have bk : Blk (u1.alloc (.cells #[.bool x, .slice A na ca, .bool y, .slice B nb cb, .bool z, .slice C nc cc] 26)) u1.heap.size 26 #[.bool x, .slice A na ca, .bool y, .slice B nb cb, .bool z, .slice C nc cc] := Blk.new _ _ _
  go_wp2_with fail
  clear c0b0 c1b0 c0b1 c1b1 c0b2 c1b2
  have ch2 := ch1.trans (al.mono ch1.size)
  replace b0 := b0.below al b0.lt
  replace b1 := b1.below al b1.lt
  replace b2 := b2.below al b2.lt
  replace sa := sa.below al
  replace sb := sb.below al
  replace sc := sc.below al
  refine (usable3 (most := 40) (by omega) sa hna sb hnb sc hnc bk).mono ?_
  rintro e u2 ⟨rfl, h2⟩
  rw [hu]
  clear bk al
  have ch3 := ch2.trans (h2.mono ch2.size)
  replace b0 := b0.below h2 b0.lt
  replace b1 := b1.below h2 b1.lt
  replace b2 := b2.below h2 b2.lt
  replace sa := sa.below h2
  replace sb := sb.below h2
  replace sc := sc.below h2
  go_wp2
  go_ret
  exact ⟨rfl, ch3⟩

set_option maxRecDepth 100000 in
set_option maxHeartbeats 20000000 in
theorem gcd_ok {x y z : Bool} {la lb lc : List Nat} {A B C : Option Addr} {na ca nb cb nc cc : Nat} {w : World} (sa : Sl w (.slice A na ca) la) (hna : Hid (la.length = na)) (sb : Sl w (.slice B nb cb) lb) (hnb : Hid (lb.length = nb)) (sc : Sl w (.slice C nc cc) lc) (hnc : Hid (lc.length = nc)) (hu0 : uB 40 x la = true) (hu1 : uB 40 y lb = true) (hu2 : uB 40 z lc = true) :
  Calls Try.prog 8 #[.agg #[.bool x, .slice A na ca], .agg #[.bool y, .slice B nb cb], .agg #[.bool z, .slice C nc cc]] w fun e w' => e = .returned (.bool true) ∧ Below w.heap.size w w' := by
  have b0 : Blk (((w.alloc (.cells #[.bool x, .slice A na ca] 26)).alloc (.cells #[.bool y, .slice B nb cb] 26)).alloc (.cells #[.bool z, .slice C nc cc] 26)) w.heap.size 26 #[.bool x, .slice A na ca] := by
    have := (((Blk.new w 26 #[.bool x, .slice A na ca]).alloc (.cells #[.bool y, .slice B nb cb] 26)).alloc (.cells #[.bool z, .slice C nc cc] 26))
    exact this
  have b1 : Blk (((w.alloc (.cells #[.bool x, .slice A na ca] 26)).alloc (.cells #[.bool y, .slice B nb cb] 26)).alloc (.cells #[.bool z, .slice C nc cc] 26)) (w.heap.size + 1) 26 #[.bool y, .slice B nb cb] := by
    have := ((Blk.new (w.alloc (.cells #[.bool x, .slice A na ca] 26)) 26 #[.bool y, .slice B nb cb]).alloc (.cells #[.bool z, .slice C nc cc] 26))
    rwa [World.size_alloc] at this
  have b2 : Blk (((w.alloc (.cells #[.bool x, .slice A na ca] 26)).alloc (.cells #[.bool y, .slice B nb cb] 26)).alloc (.cells #[.bool z, .slice C nc cc] 26)) (w.heap.size + 2) 26 #[.bool z, .slice C nc cc] := by
    have := (Blk.new ((w.alloc (.cells #[.bool x, .slice A na ca] 26)).alloc (.cells #[.bool y, .slice B nb cb] 26)) 26 #[.bool z, .slice C nc cc])
    rwa [World.size_alloc, World.size_alloc] at this
  have bw : Below w.heap.size w (((w.alloc (.cells #[.bool x, .slice A na ca] 26)).alloc (.cells #[.bool y, .slice B nb cb] 26)).alloc (.cells #[.bool z, .slice C nc cc] 26)) := (by repeat (first | exact Below.refl _ _ | assumption | refine Below.alloc ?_ (by first | (simp; done) | (simp; omega) | omega) _ | refine Below.setCell ?_ (by first | (simp; done) | (simp; omega) | omega) _ | refine Below.drew ?_))
  replace sa := sa.below bw
  replace sb := sb.below bw
  replace sc := sc.below bw
  have hu : (uB 40 x la && uB 40 y lb && uB 40 z lc) = true := by rw [hu0, hu1, hu2]; rfl
  go_enter Try.func8, Try.ntmps8
  go_wp2_with fail
  refine (awake_any _).mono ?_
  rintro e u1 ⟨rfl, h1⟩
  have ch1 := bw.trans (h1.mono bw.size)
  replace b0 := b0.below h1 b0.lt
  replace b1 := b1.below h1 b1.lt
  replace b2 := b2.below h1 b2.lt
  replace sa := sa.below h1
  replace sb := sb.below h1
  replace sc := sc.below h1
  have c0b0 := (b0.cell 0).trans (b := some (Value.bool x)) rfl
  have c1b0 := (b0.cell 1).trans (b := some (Value.slice A na ca)) rfl
  have c0b1 := (b1.cell 0).trans (b := some (Value.bool y)) rfl
  have c1b1 := (b1.cell 1).trans (b := some (Value.slice B nb cb)) rfl
  have c0b2 := (b2.cell 0).trans (b := some (Value.bool z)) rfl
  have c1b2 := (b2.cell 1).trans (b := some (Value.slice C nc cc)) rfl
  have al : Below u1.heap.size u1 (u1.alloc (.cells #[.bool x, .slice A na ca, .bool y, .slice B nb cb, .bool z, .slice C nc cc] 26)) := (Below.refl _ _).alloc (Nat.le_refl _) _
  have bk : Blk (u1.alloc (.cells #[.bool x, .slice A na ca, .bool y, .slice B nb cb, .bool z, .slice C nc cc] 26)) u1.heap.size 26 #[.bool x, .slice A na ca, .bool y, .slice B nb cb, .bool z, .slice C nc cc] := Blk.new _ _ _
  go_wp2_with fail
  clear c0b0 c1b0 c0b1 c1b1 c0b2 c1b2
  have ch2 := ch1.trans (al.mono ch1.size)
  replace b0 := b0.below al b0.lt
  replace b1 := b1.below al b1.lt
  replace b2 := b2.below al b2.lt
  replace sa := sa.below al
  replace sb := sb.below al
  replace sc := sc.below al
  refine (usable3 (most := 40) (by omega) sa hna sb hnb sc hnc bk).mono ?_
  rintro e u2 ⟨rfl, h2⟩
  rw [hu]
  clear bk al
  have ch3 := ch2.trans (h2.mono ch2.size)
  replace b0 := b0.below h2 b0.lt
  replace b1 := b1.below h2 b1.lt
  replace b2 := b2.below h2 b2.lt
  replace sa := sa.below h2
  replace sb := sb.below h2
  replace sc := sc.below h2
  have hz0 := uB_lz (wh_of_sl (x := x) sa hna) hu0
  obtain ⟨p, hp⟩ : ∃ p, zv x la = p := ⟨_, rfl⟩
  rw [hp] at hz0
  have zp := hz0.2.1
  have lzp_ : Hid (Lz 40 p) := hz0.2.2
  have kzp_ : Hid (Lz 1024 p) := lzp_.out.mono (by omega)
  have hz1 := uB_lz (wh_of_sl (x := y) sb hnb) hu1
  obtain ⟨q, hq⟩ : ∃ q, zv y lb = q := ⟨_, rfl⟩
  rw [hq] at hz1
  have zq := hz1.2.1
  have lzq_ : Hid (Lz 40 q) := hz1.2.2
  have kzq_ : Hid (Lz 1024 q) := lzq_.out.mono (by omega)
  have hz2 := uB_lz (wh_of_sl (x := z) sc hnc) hu2
  obtain ⟨t, ht⟩ : ∃ t, zv z lc = t := ⟨_, rfl⟩
  rw [ht] at hz2
  have zt := hz2.2.1
  have lzt_ : Hid (Lz 40 t) := hz2.2.2
  have kzt_ : Hid (Lz 1024 t) := lzt_.out.mono (by omega)
  clear sa hna sb hnb sc hnc hu hu0 hz0 hp hu1 hz1 hq hu2 hz2 ht
  obtain ⟨G, hG⟩ : ∃ G : Int, ((Int.gcd p q : Nat) : Int) = G := ⟨_, rfl⟩
  have kzG_ : Hid (Lz 1024 G) := by show Lz _ _; rw [← hG]; exact lz_gcd kzp_.out kzq_.out
  have lzG_ : Hid (Lz 41 G) := by
    show Lz _ _
    rw [← hG]
    rcases Nat.eq_zero_or_pos p.natAbs with h | h
    · have e : Int.gcd p q = q.natAbs := by unfold Int.gcd; rw [h, Nat.gcd_zero_left]
      have := lzq_.out.mono (k := 41) (by omega)
      unfold Lz at *; rw [e, Int.natAbs_natCast]; exact this
    · have e : Int.gcd p q ≤ p.natAbs := Nat.gcd_le_left _ h
      have := lz_iff.1 (lzp_.out.mono (k := 41) (by omega))
      exact lz_iff.2 (by rw [Int.natAbs_natCast]; omega)
  have G0 : 0 ≤ G := by rw [← hG]; omega
  have HG : Hid (((Int.gcd p q : Nat) : Int) = G) := hG
  clear hG
  have HG5 : Hid (∀ w va vb, WhZ w va p → WhZ w vb q → Calls Try.prog 36 #[va, vb] w _) := gcd_to kzp_.out kzq_.out HG.out
  have c0b0 := (b0.cell 0).trans (b := some (Value.bool x)) rfl
  have c1b0 := (b0.cell 1).trans (b := some (Value.slice A na ca)) rfl
  have c0b1 := (b1.cell 0).trans (b := some (Value.bool y)) rfl
  have c1b1 := (b1.cell 1).trans (b := some (Value.slice B nb cb)) rfl
  have c0b2 := (b2.cell 0).trans (b := some (Value.bool z)) rfl
  have c1b2 := (b2.cell 1).trans (b := some (Value.slice C nc cc)) rfl
  go_wp2_with fail
  refine (HG5.out _ _ _ zp zq).mono ?_
  rintro e u3 ⟨GA, nG, cG, rfl, zG, h3⟩
  clear c0b0 c1b0 c0b1 c1b1 c0b2 c1b2
  have ch4 := ch3.trans (h3.mono ch3.size)
  replace b0 := b0.below h3 b0.lt
  replace b1 := b1.below h3 b1.lt
  replace b2 := b2.below h3 b2.lt
  replace zp := zp.below h3
  replace zq := zq.below h3
  replace zt := zt.below h3
  have a4v : Below u3.heap.size u3 (u3.alloc (.cells #[.bool false, .slice GA nG cG] 26)) := (Below.refl _ _).alloc (Nat.le_refl _) _
  have b3 : Blk (u3.alloc (.cells #[.bool false, .slice GA nG cG] 26)) u3.heap.size 26 #[.bool false, .slice GA nG cG] := Blk.new _ _ _
  have ch5 := ch4.trans (a4v.mono ch4.size)
  replace b0 := b0.below a4v b0.lt
  replace b1 := b1.below a4v b1.lt
  replace b2 := b2.below a4v b2.lt
  replace zp := zp.below a4v
  replace zq := zq.below a4v
  replace zt := zt.below a4v
  replace zG := zG.below a4v
  have c0b0 := (b0.cell 0).trans (b := some (Value.bool x)) rfl
  have c1b0 := (b0.cell 1).trans (b := some (Value.slice A na ca)) rfl
  have c0b1 := (b1.cell 0).trans (b := some (Value.bool y)) rfl
  have c1b1 := (b1.cell 1).trans (b := some (Value.slice B nb cb)) rfl
  have c0b2 := (b2.cell 0).trans (b := some (Value.bool z)) rfl
  have c1b2 := (b2.cell 1).trans (b := some (Value.slice C nc cc)) rfl
  have c0b3 := (b3.cell 0).trans (b := some (Value.bool false)) rfl
  have c1b3 := (b3.cell 1).trans (b := some (Value.slice GA nG cG)) rfl
  go_wp2_with fail
  refine (valid_y zG kzG_.out).mono ?_
  rintro e u5 ⟨rfl, h5⟩
  clear c0b0 c1b0 c0b1 c1b1 c0b2 c1b2 c0b3 c1b3
  have ch6 := ch5.trans (h5.mono ch5.size)
  replace b0 := b0.below h5 b0.lt
  replace b1 := b1.below h5 b1.lt
  replace b2 := b2.below h5 b2.lt
  replace b3 := b3.below h5 b3.lt
  replace zp := zp.below h5
  replace zq := zq.below h5
  replace zt := zt.below h5
  replace zG := zG.below h5
  have kA8 : Hid (Lz 1024 (p * t)) := (lzp_.out.mul lzt_.out).mono (by omega)
  have kB8 : Hid (Lz 1024 (q + p * t)) := ((lzq_.out.mono (k := 80) (by omega)).add (lzp_.out.mul lzt_.out)).mono (by omega)
  have kC8 : Hid (Lz 1024 (q * t)) := (lzq_.out.mul lzt_.out).mono (by omega)
  have HG8 : Hid (∀ w va vb, WhZ w va (q + p * t) → WhZ w vb p → Calls Try.prog 36 #[va, vb] w _) := gcd_to kB8.out kzp_.out ((congrArg _ (gcd_shift p q t)).trans HG.out)
  have HG9 : Hid (∀ w va vb, WhZ w va (p * t) → WhZ w vb (q * t) → Calls Try.prog 36 #[va, vb] w _) := gcd_to kA8.out kC8.out ((gcd_scale p q t).trans (by rw [HG.out]))
  have up8 : ∀ b ∈ [w.heap.size, (w.heap.size + 1), (w.heap.size + 2), u3.heap.size], b < u5.heap.size := by
    intro b hb
    simp only [List.mem_cons, List.mem_nil_iff, or_false] at hb
    rcases hb with rfl | rfl | rfl | rfl
    · exact b0.lt
    · exact b1.lt
    · exact b2.lt
    · exact b3.lt
  have HUP8 : Hid _ := up8
  clear up8
  have c0b0 := (b0.cell 0).trans (b := some (Value.bool x)) rfl
  have c1b0 := (b0.cell 1).trans (b := some (Value.slice A na ca)) rfl
  have c0b1 := (b1.cell 0).trans (b := some (Value.bool y)) rfl
  have c1b1 := (b1.cell 1).trans (b := some (Value.slice B nb cb)) rfl
  have c0b2 := (b2.cell 0).trans (b := some (Value.bool z)) rfl
  have c1b2 := (b2.cell 1).trans (b := some (Value.slice C nc cc)) rfl
  have c0b3 := (b3.cell 0).trans (b := some (Value.bool false)) rfl
  have c1b3 := (b3.cell 1).trans (b := some (Value.slice GA nG cG)) rfl
  go_upto_region 8 with fail
  clear c0b0 c1b0 c0b1 c1b1 c0b2 c1b2 c0b3 c1b3
  go_cut [9, 10] from 40 to 49 (fun s1 s2 wx => s2 = .int .i64 0 ∧ OneZ u5 wx s1 G)
  case first =>
    clear zG b3 ch6
    have lt_b0 := b0.lt
    have lt_b1 := b1.lt
    have lt_b2 := b2.lt
    replace b0 := b0.drew
    replace b1 := b1.drew
    replace b2 := b2.drew
    replace zp := whz_drew zp
    replace zq := whz_drew zq
    replace zt := whz_drew zt
    have hC : Below u5.heap.size u5 u5.drew := (Below.refl _ _).drew
    refine wp_region_held_drew (S := fun w' => w'.cell? ⟨w.heap.size, 0, none⟩ = some (.bool x) ∧ w'.cell? ⟨w.heap.size, 1, none⟩ = some (.slice A na ca) ∧ w'.cell? ⟨(w.heap.size + 1), 0, none⟩ = some (.bool y) ∧ w'.cell? ⟨(w.heap.size + 1), 1, none⟩ = some (.slice B nb cb) ∧ w'.cell? ⟨(w.heap.size + 2), 0, none⟩ = some (.bool z) ∧ w'.cell? ⟨(w.heap.size + 2), 1, none⟩ = some (.slice C nc cc)) (by kernel_rfl) (cells6 b0 b1 b2) (fun hH => ?_)
    obtain ⟨x0, hx0⟩ : ∃ x, u5.drew = x := ⟨_, rfl⟩
    rw [hx0] at hH hC b0 b1 b2 zp zq zt ⊢
    clear hx0
    refine wpAnyH_take (i := 0) (v := ?_) rfl (by kernel_rfl) (by kernel_rfl) (by kernel_rfl) (fun _ _ _ h => h) (Or.inl ⟨by rfl, ?_⟩) (by assumption) ?_
    rotate_left
    · intro w' hSw
      (try dsimp only at hSw)
      obtain ⟨q0, q1, q2, q3, q4, q5⟩ := hSw
      go_simp
      try with_reducible rfl
    (try simp only [List.getElem_toArray, List.getElem_cons_zero, List.getElem_cons_succ, Act.put, List.setIfInBounds_toArray, List.set_cons_zero, List.set_cons_succ])
    refine wpAnyH_take (i := 1) (v := ?_) rfl (by kernel_rfl) (by kernel_rfl) (by kernel_rfl) (fun _ _ _ h => h) (Or.inl ⟨by rfl, ?_⟩) (by assumption) ?_
    rotate_left
    · intro w' hSw
      (try dsimp only at hSw)
      obtain ⟨q0, q1, q2, q3, q4, q5⟩ := hSw
      go_simp
      try with_reducible rfl
    (try simp only [List.getElem_toArray, List.getElem_cons_zero, List.getElem_cons_succ, Act.put, List.setIfInBounds_toArray, List.set_cons_zero, List.set_cons_succ])
    refine wpAnyH_take (i := 2) (v := ?_) rfl (by kernel_rfl) (by kernel_rfl) (by kernel_rfl) (fun _ _ _ h => h) (Or.inl ⟨by rfl, ?_⟩) (by assumption) ?_
    rotate_left
    · intro w' hSw
      (try dsimp only at hSw)
      obtain ⟨q0, q1, q2, q3, q4, q5⟩ := hSw
      go_simp
      try with_reducible rfl
    (try simp only [List.getElem_toArray, List.getElem_cons_zero, List.getElem_cons_succ, Act.put, List.setIfInBounds_toArray, List.set_cons_zero, List.set_cons_succ])
    refine wpAnyH_take (i := 5) (v := ?_) rfl (by kernel_rfl) (by kernel_rfl) (by kernel_rfl) (fun _ _ _ h => h) (Or.inl ⟨by rfl, ?_⟩) (by assumption) ?_
    rotate_left
    · intro w' hSw
      (try dsimp only at hSw)
      obtain ⟨q0, q1, q2, q3, q4, q5⟩ := hSw
      go_simp
      try with_reducible rfl
    (try simp only [List.getElem_toArray, List.getElem_cons_zero, List.getElem_cons_succ, Act.put, List.setIfInBounds_toArray, List.set_cons_zero, List.set_cons_succ])
    refine wpAnyH_ready (rs := [3, 10]) (by kernel_rfl) (by simp) ?_
    refine AllReadyH.cons rfl (fun K hK => ?_) ?_
    · skip
      go_simp
      refine (prodv zp zt kzp_.out kzt_.out kA8.out).mono ?_
      rintro e x6 ⟨vA, rfl, zA, hb6⟩
      replace b0 := b0.below hb6 b0.lt
      replace b1 := b1.below hb6 b1.lt
      replace b2 := b2.below hb6 b2.lt
      replace zp := zp.below hb6
      replace zq := zq.below hb6
      replace zt := zt.below hb6
      replace hC := hC.trans (hb6.mono hC.size)
      clear hb6
      clear hH
      refine hK.out _ _ (cells6 b0 b1 b2) (fun hH => ?_)
      clear hK K
      (try simp only [List.getElem_toArray, List.getElem_cons_zero, List.getElem_cons_succ, Act.put, List.setIfInBounds_toArray, List.set_cons_zero, List.set_cons_succ])
      refine wpAnyH_ready (rs := [4, 10]) (by kernel_rfl) (by simp) ?_
      refine AllReadyH.cons rfl (fun K hK => ?_) ?_
      · skip
        go_simp
        refine (sumv zq zA kzq_.out kA8.out kB8.out).mono ?_
        rintro e x7 ⟨vB, rfl, zB, hb7⟩
        replace b0 := b0.below hb7 b0.lt
        replace b1 := b1.below hb7 b1.lt
        replace b2 := b2.below hb7 b2.lt
        replace zp := zp.below hb7
        replace zq := zq.below hb7
        replace zt := zt.below hb7
        replace zA := zA.below hb7
        replace hC := hC.trans (hb7.mono hC.size)
        clear hb7
        clear hH
        refine hK.out _ _ (cells6 b0 b1 b2) (fun hH => ?_)
        clear hK K
        (try simp only [List.getElem_toArray, List.getElem_cons_zero, List.getElem_cons_succ, Act.put, List.setIfInBounds_toArray, List.set_cons_zero, List.set_cons_succ])
        refine wpAnyH_ready (rs := [6, 10]) (by kernel_rfl) (by simp) ?_
        refine AllReadyH.cons rfl (fun K hK => ?_) ?_
        · skip
          go_simp
          refine (HG8.out _ _ _ zB zp).mono ?_
          rintro e x8 ⟨FA, nF, cF, rfl, zF, hb8⟩
          replace b0 := b0.below hb8 b0.lt
          replace b1 := b1.below hb8 b1.lt
          replace b2 := b2.below hb8 b2.lt
          replace zp := zp.below hb8
          replace zq := zq.below hb8
          replace zt := zt.below hb8
          replace zA := zA.below hb8
          replace zB := zB.below hb8
          replace hC := hC.trans (hb8.mono hC.size)
          clear hb8
          clear hH
          refine hK.out _ _ (cells6 b0 b1 b2) (fun hH => ?_)
          clear hK K
          (try simp only [List.getElem_toArray, List.getElem_cons_zero, List.getElem_cons_succ, Act.put, List.setIfInBounds_toArray, List.set_cons_zero, List.set_cons_succ])
          refine wpAnyH_take (i := 7) (v := ?_) rfl (by kernel_rfl) (by kernel_rfl) (by kernel_rfl) (fun _ _ _ h => h) (Or.inl ⟨by rfl, ?_⟩) (by assumption) ?_
          rotate_left
          · intro w' hSw
            (try dsimp only at hSw)
            obtain ⟨q0, q1, q2, q3, q4, q5⟩ := hSw
            go_simp
            try with_reducible rfl
          (try simp only [List.getElem_toArray, List.getElem_cons_zero, List.getElem_cons_succ, Act.put, List.setIfInBounds_toArray, List.set_cons_zero, List.set_cons_succ])
          refine wpAnyH_take (i := 8) (v := ?_) rfl (by kernel_rfl) (by kernel_rfl) (by kernel_rfl) (fun _ _ _ h => h) (Or.inl ⟨by rfl, ?_⟩) (by assumption) ?_
          rotate_left
          · intro w' hSw
            (try dsimp only at hSw)
            obtain ⟨q0, q1, q2, q3, q4, q5⟩ := hSw
            go_simp
            try with_reducible rfl
          (try simp only [List.getElem_toArray, List.getElem_cons_zero, List.getElem_cons_succ, Act.put, List.setIfInBounds_toArray, List.set_cons_zero, List.set_cons_succ])
          refine wpAnyH_take (i := 9) (v := ?_) rfl (by kernel_rfl) (by kernel_rfl) (by kernel_rfl) (fun _ _ _ h => h) (Or.inl ⟨by rfl, ?_⟩) (by assumption) ?_
          rotate_left
          · intro w' hSw
            (try dsimp only at hSw)
            obtain ⟨q0, q1, q2, q3, q4, q5⟩ := hSw
            go_simp
            try with_reducible rfl
          (try simp only [List.getElem_toArray, List.getElem_cons_zero, List.getElem_cons_succ, Act.put, List.setIfInBounds_toArray, List.set_cons_zero, List.set_cons_succ])
          refine wpAnyH_ready (rs := [10]) (by kernel_rfl) (by simp) ?_
          refine AllReadyH.cons rfl (fun K hK => ?_) ?_
          · skip
            go_simp
            have n10 := Blk.new x8 26 #[.bool false, .slice none 0 0]
            have hb9 : Below x8.heap.size x8 (x8.alloc (.cells #[.bool false, .slice none 0 0] 26)) := (Below.refl _ _).alloc (Nat.le_refl _) _
            obtain ⟨x9, hx9⟩ : ∃ x, x8.alloc (.cells #[.bool false, .slice none 0 0] 26) = x := ⟨_, rfl⟩
            obtain ⟨g10, hg10⟩ : ∃ g, x8.heap.size = g := ⟨_, rfl⟩
            have hs10 : u5.heap.size ≤ g10 := by rw [← hg10]; exact hC.size
            replace b0 := b0.below hb9 b0.lt
            replace b1 := b1.below hb9 b1.lt
            replace b2 := b2.below hb9 b2.lt
            replace zp := zp.below hb9
            replace zq := zq.below hb9
            replace zt := zt.below hb9
            replace zA := zA.below hb9
            replace zB := zB.below hb9
            replace zF := zF.below hb9
            replace hC := hC.trans (hb9.mono hC.size)
            clear hb9
            rw [hx9] at n10 hC b0 b1 b2 zp zq zt zA zB zF ⊢
            rw [hg10] at n10 ⊢
            clear hx9 hg10
            clear hH
            refine hK.out _ _ (cells6 b0 b1 b2) (fun hH => ?_)
            clear hK K
            (try simp only [List.getElem_toArray, List.getElem_cons_zero, List.getElem_cons_succ, Act.put, List.setIfInBounds_toArray, List.set_cons_zero, List.set_cons_succ])
            refine wpAnyH_ready (rs := [11]) (by kernel_rfl) (by simp) ?_
            refine AllReadyH.cons rfl (fun K hK => ?_) ?_
            · skip
              have p010 := (n10.cell 0).trans (b := some (Value.bool false)) rfl
              have p110 := (n10.cell 1).trans (b := some (Value.slice none 0 0)) rfl
              have p210 := n10.frozen 0
              have p310 := n10.frozen 1
              have p410 := n10.lt
              go_simp
              clear p010 p110 p210 p310 p410
              replace zp := whz_store2 zp n10 false FA nF cF
              replace zq := whz_store2 zq n10 false FA nF cF
              replace zt := whz_store2 zt n10 false FA nF cF
              replace zA := whz_store2 zA n10 false FA nF cF
              replace zB := whz_store2 zB n10 false FA nF cF
              replace zF := whz_store2 zF n10 false FA nF cF
              replace b0 := (b0.far (p := ⟨g10, 0, none⟩) (show w.heap.size ≠ g10 by omega) (.bool false)).far (p := ⟨g10, 1, none⟩) (show w.heap.size ≠ g10 by omega) (.slice FA nF cF)
              replace b1 := (b1.far (p := ⟨g10, 0, none⟩) (show (w.heap.size + 1) ≠ g10 by omega) (.bool false)).far (p := ⟨g10, 1, none⟩) (show (w.heap.size + 1) ≠ g10 by omega) (.slice FA nF cF)
              replace b2 := (b2.far (p := ⟨g10, 0, none⟩) (show (w.heap.size + 2) ≠ g10 by omega) (.bool false)).far (p := ⟨g10, 1, none⟩) (show (w.heap.size + 2) ≠ g10 by omega) (.slice FA nF cF)
              replace n10 := (n10.set_ 0 (.bool false)).set_ 1 (.slice FA nF cF)
              replace hC := (hC.setCell (p := ⟨g10, 0, none⟩) hs10 (.bool false)).setCell (p := ⟨g10, 1, none⟩) hs10 (.slice FA nF cF)
              obtain ⟨x10, hx10⟩ : ∃ x, (x9.setCell ⟨g10, 0, none⟩ (.bool false)).setCell ⟨g10, 1, none⟩ (.slice FA nF cF) = x := ⟨_, rfl⟩
              rw [hx10] at hC b0 b1 b2 n10 zp zq zt zA zB zF ⊢
              clear hx10
              clear hH
              refine hK.out _ _ (cells6 b0 b1 b2) (fun hH => ?_)
              clear hK K
              (try simp only [List.getElem_toArray, List.getElem_cons_zero, List.getElem_cons_succ, Act.put, List.setIfInBounds_toArray, List.set_cons_zero, List.set_cons_succ])
              refine wpAnyH_take (i := 12) (v := ?_) rfl (by kernel_rfl) (by kernel_rfl) (by kernel_rfl) (fun _ _ _ h => h) (Or.inl ⟨by rfl, ?_⟩) (by assumption) ?_
              rotate_left
              · intro w' hSw
                (try dsimp only at hSw)
                obtain ⟨q0, q1, q2, q3, q4, q5⟩ := hSw
                go_simp
                try with_reducible rfl
              (try simp only [List.getElem_toArray, List.getElem_cons_zero, List.getElem_cons_succ, Act.put, List.setIfInBounds_toArray, List.set_cons_zero, List.set_cons_succ])
              refine wpAnyH_done (by kernel_rfl) ?_ _
              clear hH
              go_wp2
              go_meet
              first | exact ⟨rfl, g10, _, _, _, rfl, hs10, n10, zF, hC⟩ | ((repeat apply Exists.intro); exact ⟨⟨rfl, g10, _, _, _, rfl, hs10, n10, zF, hC⟩, rfl⟩)
            exact AllReadyH.nil
          exact AllReadyH.nil
        refine AllReadyH.cons rfl (fun K hK => ?_) ?_
        · skip
          go_simp
          have n10 := Blk.new x7 26 #[.bool false, .slice none 0 0]
          have hb11 : Below x7.heap.size x7 (x7.alloc (.cells #[.bool false, .slice none 0 0] 26)) := (Below.refl _ _).alloc (Nat.le_refl _) _
          obtain ⟨x11, hx11⟩ : ∃ x, x7.alloc (.cells #[.bool false, .slice none 0 0] 26) = x := ⟨_, rfl⟩
          obtain ⟨g10, hg10⟩ : ∃ g, x7.heap.size = g := ⟨_, rfl⟩
          have hs10 : u5.heap.size ≤ g10 := by rw [← hg10]; exact hC.size
          replace b0 := b0.below hb11 b0.lt
          replace b1 := b1.below hb11 b1.lt
          replace b2 := b2.below hb11 b2.lt
          replace zp := zp.below hb11
          replace zq := zq.below hb11
          replace zt := zt.below hb11
          replace zA := zA.below hb11
          replace zB := zB.below hb11
          replace hC := hC.trans (hb11.mono hC.size)
          clear hb11
          rw [hx11] at n10 hC b0 b1 b2 zp zq zt zA zB ⊢
          rw [hg10] at n10 ⊢
          clear hx11 hg10
          clear hH
          refine hK.out _ _ (cells6 b0 b1 b2) (fun hH => ?_)
          clear hK K
          (try simp only [List.getElem_toArray, List.getElem_cons_zero, List.getElem_cons_succ, Act.put, List.setIfInBounds_toArray, List.set_cons_zero, List.set_cons_succ])
          refine wpAnyH_ready (rs := [6]) (by kernel_rfl) (by simp) ?_
          refine AllReadyH.cons rfl (fun K hK => ?_) ?_
          · skip
            go_simp
            refine (HG8.out _ _ _ zB zp).mono ?_
            rintro e x12 ⟨FA, nF, cF, rfl, zF, hb12⟩
            replace b0 := b0.below hb12 b0.lt
            replace b1 := b1.below hb12 b1.lt
            replace b2 := b2.below hb12 b2.lt
            replace n10 := n10.below hb12 n10.lt
            replace zp := zp.below hb12
            replace zq := zq.below hb12
            replace zt := zt.below hb12
            replace zA := zA.below hb12
            replace zB := zB.below hb12
            replace hC := hC.trans (hb12.mono hC.size)
            clear hb12
            clear hH
            refine hK.out _ _ (cells6 b0 b1 b2) (fun hH => ?_)
            clear hK K
            (try simp only [List.getElem_toArray, List.getElem_cons_zero, List.getElem_cons_succ, Act.put, List.setIfInBounds_toArray, List.set_cons_zero, List.set_cons_succ])
            refine wpAnyH_take (i := 7) (v := ?_) rfl (by kernel_rfl) (by kernel_rfl) (by kernel_rfl) (fun _ _ _ h => h) (Or.inl ⟨by rfl, ?_⟩) (by assumption) ?_
            rotate_left
            · intro w' hSw
              (try dsimp only at hSw)
              obtain ⟨q0, q1, q2, q3, q4, q5⟩ := hSw
              go_simp
              try with_reducible rfl
            (try simp only [List.getElem_toArray, List.getElem_cons_zero, List.getElem_cons_succ, Act.put, List.setIfInBounds_toArray, List.set_cons_zero, List.set_cons_succ])
            refine wpAnyH_take (i := 8) (v := ?_) rfl (by kernel_rfl) (by kernel_rfl) (by kernel_rfl) (fun _ _ _ h => h) (Or.inl ⟨by rfl, ?_⟩) (by assumption) ?_
            rotate_left
            · intro w' hSw
              (try dsimp only at hSw)
              obtain ⟨q0, q1, q2, q3, q4, q5⟩ := hSw
              go_simp
              try with_reducible rfl
            (try simp only [List.getElem_toArray, List.getElem_cons_zero, List.getElem_cons_succ, Act.put, List.setIfInBounds_toArray, List.set_cons_zero, List.set_cons_succ])
            refine wpAnyH_take (i := 9) (v := ?_) rfl (by kernel_rfl) (by kernel_rfl) (by kernel_rfl) (fun _ _ _ h => h) (Or.inl ⟨by rfl, ?_⟩) (by assumption) ?_
            rotate_left
            · intro w' hSw
              (try dsimp only at hSw)
              obtain ⟨q0, q1, q2, q3, q4, q5⟩ := hSw
              go_simp
              try with_reducible rfl
            (try simp only [List.getElem_toArray, List.getElem_cons_zero, List.getElem_cons_succ, Act.put, List.setIfInBounds_toArray, List.set_cons_zero, List.set_cons_succ])
            refine wpAnyH_ready (rs := [11]) (by kernel_rfl) (by simp) ?_
            refine AllReadyH.cons rfl (fun K hK => ?_) ?_
            · skip
              have p013 := (n10.cell 0).trans (b := some (Value.bool false)) rfl
              have p113 := (n10.cell 1).trans (b := some (Value.slice none 0 0)) rfl
              have p213 := n10.frozen 0
              have p313 := n10.frozen 1
              have p413 := n10.lt
              go_simp
              clear p013 p113 p213 p313 p413
              replace zp := whz_store2 zp n10 false FA nF cF
              replace zq := whz_store2 zq n10 false FA nF cF
              replace zt := whz_store2 zt n10 false FA nF cF
              replace zA := whz_store2 zA n10 false FA nF cF
              replace zB := whz_store2 zB n10 false FA nF cF
              replace zF := whz_store2 zF n10 false FA nF cF
              replace b0 := (b0.far (p := ⟨g10, 0, none⟩) (show w.heap.size ≠ g10 by omega) (.bool false)).far (p := ⟨g10, 1, none⟩) (show w.heap.size ≠ g10 by omega) (.slice FA nF cF)
              replace b1 := (b1.far (p := ⟨g10, 0, none⟩) (show (w.heap.size + 1) ≠ g10 by omega) (.bool false)).far (p := ⟨g10, 1, none⟩) (show (w.heap.size + 1) ≠ g10 by omega) (.slice FA nF cF)
              replace b2 := (b2.far (p := ⟨g10, 0, none⟩) (show (w.heap.size + 2) ≠ g10 by omega) (.bool false)).far (p := ⟨g10, 1, none⟩) (show (w.heap.size + 2) ≠ g10 by omega) (.slice FA nF cF)
              replace n10 := (n10.set_ 0 (.bool false)).set_ 1 (.slice FA nF cF)
              replace hC := (hC.setCell (p := ⟨g10, 0, none⟩) hs10 (.bool false)).setCell (p := ⟨g10, 1, none⟩) hs10 (.slice FA nF cF)
              obtain ⟨x13, hx13⟩ : ∃ x, (x12.setCell ⟨g10, 0, none⟩ (.bool false)).setCell ⟨g10, 1, none⟩ (.slice FA nF cF) = x := ⟨_, rfl⟩
              rw [hx13] at hC b0 b1 b2 n10 zp zq zt zA zB zF ⊢
              clear hx13
              clear hH
              refine hK.out _ _ (cells6 b0 b1 b2) (fun hH => ?_)
              clear hK K
              (try simp only [List.getElem_toArray, List.getElem_cons_zero, List.getElem_cons_succ, Act.put, List.setIfInBounds_toArray, List.set_cons_zero, List.set_cons_succ])
              refine wpAnyH_take (i := 12) (v := ?_) rfl (by kernel_rfl) (by kernel_rfl) (by kernel_rfl) (fun _ _ _ h => h) (Or.inl ⟨by rfl, ?_⟩) (by assumption) ?_
              rotate_left
              · intro w' hSw
                (try dsimp only at hSw)
                obtain ⟨q0, q1, q2, q3, q4, q5⟩ := hSw
                go_simp
                try with_reducible rfl
              (try simp only [List.getElem_toArray, List.getElem_cons_zero, List.getElem_cons_succ, Act.put, List.setIfInBounds_toArray, List.set_cons_zero, List.set_cons_succ])
              refine wpAnyH_done (by kernel_rfl) ?_ _
              clear hH
              go_wp2
              go_meet
              first | exact ⟨rfl, g10, _, _, _, rfl, hs10, n10, zF, hC⟩ | ((repeat apply Exists.intro); exact ⟨⟨rfl, g10, _, _, _, rfl, hs10, n10, zF, hC⟩, rfl⟩)
            exact AllReadyH.nil
          exact AllReadyH.nil
        exact AllReadyH.nil
      refine AllReadyH.cons rfl (fun K hK => ?_) ?_
      · skip
        go_simp
        have n10 := Blk.new x6 26 #[.bool false, .slice none 0 0]
        have hb14 : Below x6.heap.size x6 (x6.alloc (.cells #[.bool false, .slice none 0 0] 26)) := (Below.refl _ _).alloc (Nat.le_refl _) _
        obtain ⟨x14, hx14⟩ : ∃ x, x6.alloc (.cells #[.bool false, .slice none 0 0] 26) = x := ⟨_, rfl⟩
        obtain ⟨g10, hg10⟩ : ∃ g, x6.heap.size = g := ⟨_, rfl⟩
        have hs10 : u5.heap.size ≤ g10 := by rw [← hg10]; exact hC.size
        replace b0 := b0.below hb14 b0.lt
        replace b1 := b1.below hb14 b1.lt
        replace b2 := b2.below hb14 b2.lt
        replace zp := zp.below hb14
        replace zq := zq.below hb14
        replace zt := zt.below hb14
        replace zA := zA.below hb14
        replace hC := hC.trans (hb14.mono hC.size)
        clear hb14
        rw [hx14] at n10 hC b0 b1 b2 zp zq zt zA ⊢
        rw [hg10] at n10 ⊢
        clear hx14 hg10
        clear hH
        refine hK.out _ _ (cells6 b0 b1 b2) (fun hH => ?_)
        clear hK K
        (try simp only [List.getElem_toArray, List.getElem_cons_zero, List.getElem_cons_succ, Act.put, List.setIfInBounds_toArray, List.set_cons_zero, List.set_cons_succ])
        refine wpAnyH_ready (rs := [4]) (by kernel_rfl) (by simp) ?_
        refine AllReadyH.cons rfl (fun K hK => ?_) ?_
        · skip
          go_simp
          refine (sumv zq zA kzq_.out kA8.out kB8.out).mono ?_
          rintro e x15 ⟨vB, rfl, zB, hb15⟩
          replace b0 := b0.below hb15 b0.lt
          replace b1 := b1.below hb15 b1.lt
          replace b2 := b2.below hb15 b2.lt
          replace n10 := n10.below hb15 n10.lt
          replace zp := zp.below hb15
          replace zq := zq.below hb15
          replace zt := zt.below hb15
          replace zA := zA.below hb15
          replace hC := hC.trans (hb15.mono hC.size)
          clear hb15
          clear hH
          refine hK.out _ _ (cells6 b0 b1 b2) (fun hH => ?_)
          clear hK K
          (try simp only [List.getElem_toArray, List.getElem_cons_zero, List.getElem_cons_succ, Act.put, List.setIfInBounds_toArray, List.set_cons_zero, List.set_cons_succ])
          refine wpAnyH_ready (rs := [6]) (by kernel_rfl) (by simp) ?_
          refine AllReadyH.cons rfl (fun K hK => ?_) ?_
          · skip
            go_simp
            refine (HG8.out _ _ _ zB zp).mono ?_
            rintro e x16 ⟨FA, nF, cF, rfl, zF, hb16⟩
            replace b0 := b0.below hb16 b0.lt
            replace b1 := b1.below hb16 b1.lt
            replace b2 := b2.below hb16 b2.lt
            replace n10 := n10.below hb16 n10.lt
            replace zp := zp.below hb16
            replace zq := zq.below hb16
            replace zt := zt.below hb16
            replace zA := zA.below hb16
            replace zB := zB.below hb16
            replace hC := hC.trans (hb16.mono hC.size)
            clear hb16
            clear hH
            refine hK.out _ _ (cells6 b0 b1 b2) (fun hH => ?_)
            clear hK K
            (try simp only [List.getElem_toArray, List.getElem_cons_zero, List.getElem_cons_succ, Act.put, List.setIfInBounds_toArray, List.set_cons_zero, List.set_cons_succ])
            refine wpAnyH_take (i := 7) (v := ?_) rfl (by kernel_rfl) (by kernel_rfl) (by kernel_rfl) (fun _ _ _ h => h) (Or.inl ⟨by rfl, ?_⟩) (by assumption) ?_
            rotate_left
            · intro w' hSw
              (try dsimp only at hSw)
              obtain ⟨q0, q1, q2, q3, q4, q5⟩ := hSw
              go_simp
              try with_reducible rfl
            (try simp only [List.getElem_toArray, List.getElem_cons_zero, List.getElem_cons_succ, Act.put, List.setIfInBounds_toArray, List.set_cons_zero, List.set_cons_succ])
            refine wpAnyH_take (i := 8) (v := ?_) rfl (by kernel_rfl) (by kernel_rfl) (by kernel_rfl) (fun _ _ _ h => h) (Or.inl ⟨by rfl, ?_⟩) (by assumption) ?_
            rotate_left
            · intro w' hSw
              (try dsimp only at hSw)
              obtain ⟨q0, q1, q2, q3, q4, q5⟩ := hSw
              go_simp
              try with_reducible rfl
            (try simp only [List.getElem_toArray, List.getElem_cons_zero, List.getElem_cons_succ, Act.put, List.setIfInBounds_toArray, List.set_cons_zero, List.set_cons_succ])
            refine wpAnyH_take (i := 9) (v := ?_) rfl (by kernel_rfl) (by kernel_rfl) (by kernel_rfl) (fun _ _ _ h => h) (Or.inl ⟨by rfl, ?_⟩) (by assumption) ?_
            rotate_left
            · intro w' hSw
              (try dsimp only at hSw)
              obtain ⟨q0, q1, q2, q3, q4, q5⟩ := hSw
              go_simp
              try with_reducible rfl
            (try simp only [List.getElem_toArray, List.getElem_cons_zero, List.getElem_cons_succ, Act.put, List.setIfInBounds_toArray, List.set_cons_zero, List.set_cons_succ])
            refine wpAnyH_ready (rs := [11]) (by kernel_rfl) (by simp) ?_
            refine AllReadyH.cons rfl (fun K hK => ?_) ?_
            · skip
              have p017 := (n10.cell 0).trans (b := some (Value.bool false)) rfl
              have p117 := (n10.cell 1).trans (b := some (Value.slice none 0 0)) rfl
              have p217 := n10.frozen 0
              have p317 := n10.frozen 1
              have p417 := n10.lt
              go_simp
              clear p017 p117 p217 p317 p417
              replace zp := whz_store2 zp n10 false FA nF cF
              replace zq := whz_store2 zq n10 false FA nF cF
              replace zt := whz_store2 zt n10 false FA nF cF
              replace zA := whz_store2 zA n10 false FA nF cF
              replace zB := whz_store2 zB n10 false FA nF cF
              replace zF := whz_store2 zF n10 false FA nF cF
              replace b0 := (b0.far (p := ⟨g10, 0, none⟩) (show w.heap.size ≠ g10 by omega) (.bool false)).far (p := ⟨g10, 1, none⟩) (show w.heap.size ≠ g10 by omega) (.slice FA nF cF)
              replace b1 := (b1.far (p := ⟨g10, 0, none⟩) (show (w.heap.size + 1) ≠ g10 by omega) (.bool false)).far (p := ⟨g10, 1, none⟩) (show (w.heap.size + 1) ≠ g10 by omega) (.slice FA nF cF)
              replace b2 := (b2.far (p := ⟨g10, 0, none⟩) (show (w.heap.size + 2) ≠ g10 by omega) (.bool false)).far (p := ⟨g10, 1, none⟩) (show (w.heap.size + 2) ≠ g10 by omega) (.slice FA nF cF)
              replace n10 := (n10.set_ 0 (.bool false)).set_ 1 (.slice FA nF cF)
              replace hC := (hC.setCell (p := ⟨g10, 0, none⟩) hs10 (.bool false)).setCell (p := ⟨g10, 1, none⟩) hs10 (.slice FA nF cF)
              obtain ⟨x17, hx17⟩ : ∃ x, (x16.setCell ⟨g10, 0, none⟩ (.bool false)).setCell ⟨g10, 1, none⟩ (.slice FA nF cF) = x := ⟨_, rfl⟩
              rw [hx17] at hC b0 b1 b2 n10 zp zq zt zA zB zF ⊢
              clear hx17
              clear hH
              refine hK.out _ _ (cells6 b0 b1 b2) (fun hH => ?_)
              clear hK K
              (try simp only [List.getElem_toArray, List.getElem_cons_zero, List.getElem_cons_succ, Act.put, List.setIfInBounds_toArray, List.set_cons_zero, List.set_cons_succ])
              refine wpAnyH_take (i := 12) (v := ?_) rfl (by kernel_rfl) (by kernel_rfl) (by kernel_rfl) (fun _ _ _ h => h) (Or.inl ⟨by rfl, ?_⟩) (by assumption) ?_
              rotate_left
              · intro w' hSw
                (try dsimp only at hSw)
                obtain ⟨q0, q1, q2, q3, q4, q5⟩ := hSw
                go_simp
                try with_reducible rfl
              (try simp only [List.getElem_toArray, List.getElem_cons_zero, List.getElem_cons_succ, Act.put, List.setIfInBounds_toArray, List.set_cons_zero, List.set_cons_succ])
              refine wpAnyH_done (by kernel_rfl) ?_ _
              clear hH
              go_wp2
              go_meet
              first | exact ⟨rfl, g10, _, _, _, rfl, hs10, n10, zF, hC⟩ | ((repeat apply Exists.intro); exact ⟨⟨rfl, g10, _, _, _, rfl, hs10, n10, zF, hC⟩, rfl⟩)
            exact AllReadyH.nil
          exact AllReadyH.nil
        exact AllReadyH.nil
      exact AllReadyH.nil
    refine AllReadyH.cons rfl (fun K hK => ?_) ?_
    · skip
      go_simp
      have n10 := Blk.new x0 26 #[.bool false, .slice none 0 0]
      have hb18 : Below x0.heap.size x0 (x0.alloc (.cells #[.bool false, .slice none 0 0] 26)) := (Below.refl _ _).alloc (Nat.le_refl _) _
      obtain ⟨x18, hx18⟩ : ∃ x, x0.alloc (.cells #[.bool false, .slice none 0 0] 26) = x := ⟨_, rfl⟩
      obtain ⟨g10, hg10⟩ : ∃ g, x0.heap.size = g := ⟨_, rfl⟩
      have hs10 : u5.heap.size ≤ g10 := by rw [← hg10]; exact hC.size
      replace b0 := b0.below hb18 b0.lt
      replace b1 := b1.below hb18 b1.lt
      replace b2 := b2.below hb18 b2.lt
      replace zp := zp.below hb18
      replace zq := zq.below hb18
      replace zt := zt.below hb18
      replace hC := hC.trans (hb18.mono hC.size)
      clear hb18
      rw [hx18] at n10 hC b0 b1 b2 zp zq zt ⊢
      rw [hg10] at n10 ⊢
      clear hx18 hg10
      clear hH
      refine hK.out _ _ (cells6 b0 b1 b2) (fun hH => ?_)
      clear hK K
      (try simp only [List.getElem_toArray, List.getElem_cons_zero, List.getElem_cons_succ, Act.put, List.setIfInBounds_toArray, List.set_cons_zero, List.set_cons_succ])
      refine wpAnyH_ready (rs := [3]) (by kernel_rfl) (by simp) ?_
      refine AllReadyH.cons rfl (fun K hK => ?_) ?_
      · skip
        go_simp
        refine (prodv zp zt kzp_.out kzt_.out kA8.out).mono ?_
        rintro e x19 ⟨vA, rfl, zA, hb19⟩
        replace b0 := b0.below hb19 b0.lt
        replace b1 := b1.below hb19 b1.lt
        replace b2 := b2.below hb19 b2.lt
        replace n10 := n10.below hb19 n10.lt
        replace zp := zp.below hb19
        replace zq := zq.below hb19
        replace zt := zt.below hb19
        replace hC := hC.trans (hb19.mono hC.size)
        clear hb19
        clear hH
        refine hK.out _ _ (cells6 b0 b1 b2) (fun hH => ?_)
        clear hK K
        (try simp only [List.getElem_toArray, List.getElem_cons_zero, List.getElem_cons_succ, Act.put, List.setIfInBounds_toArray, List.set_cons_zero, List.set_cons_succ])
        refine wpAnyH_ready (rs := [4]) (by kernel_rfl) (by simp) ?_
        refine AllReadyH.cons rfl (fun K hK => ?_) ?_
        · skip
          go_simp
          refine (sumv zq zA kzq_.out kA8.out kB8.out).mono ?_
          rintro e x20 ⟨vB, rfl, zB, hb20⟩
          replace b0 := b0.below hb20 b0.lt
          replace b1 := b1.below hb20 b1.lt
          replace b2 := b2.below hb20 b2.lt
          replace n10 := n10.below hb20 n10.lt
          replace zp := zp.below hb20
          replace zq := zq.below hb20
          replace zt := zt.below hb20
          replace zA := zA.below hb20
          replace hC := hC.trans (hb20.mono hC.size)
          clear hb20
          clear hH
          refine hK.out _ _ (cells6 b0 b1 b2) (fun hH => ?_)
          clear hK K
          (try simp only [List.getElem_toArray, List.getElem_cons_zero, List.getElem_cons_succ, Act.put, List.setIfInBounds_toArray, List.set_cons_zero, List.set_cons_succ])
          refine wpAnyH_ready (rs := [6]) (by kernel_rfl) (by simp) ?_
          refine AllReadyH.cons rfl (fun K hK => ?_) ?_
          · skip
            go_simp
            refine (HG8.out _ _ _ zB zp).mono ?_
            rintro e x21 ⟨FA, nF, cF, rfl, zF, hb21⟩
            replace b0 := b0.below hb21 b0.lt
            replace b1 := b1.below hb21 b1.lt
            replace b2 := b2.below hb21 b2.lt
            replace n10 := n10.below hb21 n10.lt
            replace zp := zp.below hb21
            replace zq := zq.below hb21
            replace zt := zt.below hb21
            replace zA := zA.below hb21
            replace zB := zB.below hb21
            replace hC := hC.trans (hb21.mono hC.size)
            clear hb21
            clear hH
            refine hK.out _ _ (cells6 b0 b1 b2) (fun hH => ?_)
            clear hK K
            (try simp only [List.getElem_toArray, List.getElem_cons_zero, List.getElem_cons_succ, Act.put, List.setIfInBounds_toArray, List.set_cons_zero, List.set_cons_succ])
            refine wpAnyH_take (i := 7) (v := ?_) rfl (by kernel_rfl) (by kernel_rfl) (by kernel_rfl) (fun _ _ _ h => h) (Or.inl ⟨by rfl, ?_⟩) (by assumption) ?_
            rotate_left
            · intro w' hSw
              (try dsimp only at hSw)
              obtain ⟨q0, q1, q2, q3, q4, q5⟩ := hSw
              go_simp
              try with_reducible rfl
            (try simp only [List.getElem_toArray, List.getElem_cons_zero, List.getElem_cons_succ, Act.put, List.setIfInBounds_toArray, List.set_cons_zero, List.set_cons_succ])
            refine wpAnyH_take (i := 8) (v := ?_) rfl (by kernel_rfl) (by kernel_rfl) (by kernel_rfl) (fun _ _ _ h => h) (Or.inl ⟨by rfl, ?_⟩) (by assumption) ?_
            rotate_left
            · intro w' hSw
              (try dsimp only at hSw)
              obtain ⟨q0, q1, q2, q3, q4, q5⟩ := hSw
              go_simp
              try with_reducible rfl
            (try simp only [List.getElem_toArray, List.getElem_cons_zero, List.getElem_cons_succ, Act.put, List.setIfInBounds_toArray, List.set_cons_zero, List.set_cons_succ])
            refine wpAnyH_take (i := 9) (v := ?_) rfl (by kernel_rfl) (by kernel_rfl) (by kernel_rfl) (fun _ _ _ h => h) (Or.inl ⟨by rfl, ?_⟩) (by assumption) ?_
            rotate_left
            · intro w' hSw
              (try dsimp only at hSw)
              obtain ⟨q0, q1, q2, q3, q4, q5⟩ := hSw
              go_simp
              try with_reducible rfl
            (try simp only [List.getElem_toArray, List.getElem_cons_zero, List.getElem_cons_succ, Act.put, List.setIfInBounds_toArray, List.set_cons_zero, List.set_cons_succ])
            refine wpAnyH_ready (rs := [11]) (by kernel_rfl) (by simp) ?_
            refine AllReadyH.cons rfl (fun K hK => ?_) ?_
            · skip
              have p022 := (n10.cell 0).trans (b := some (Value.bool false)) rfl
              have p122 := (n10.cell 1).trans (b := some (Value.slice none 0 0)) rfl
              have p222 := n10.frozen 0
              have p322 := n10.frozen 1
              have p422 := n10.lt
              go_simp
              clear p022 p122 p222 p322 p422
              replace zp := whz_store2 zp n10 false FA nF cF
              replace zq := whz_store2 zq n10 false FA nF cF
              replace zt := whz_store2 zt n10 false FA nF cF
              replace zA := whz_store2 zA n10 false FA nF cF
              replace zB := whz_store2 zB n10 false FA nF cF
              replace zF := whz_store2 zF n10 false FA nF cF
              replace b0 := (b0.far (p := ⟨g10, 0, none⟩) (show w.heap.size ≠ g10 by omega) (.bool false)).far (p := ⟨g10, 1, none⟩) (show w.heap.size ≠ g10 by omega) (.slice FA nF cF)
              replace b1 := (b1.far (p := ⟨g10, 0, none⟩) (show (w.heap.size + 1) ≠ g10 by omega) (.bool false)).far (p := ⟨g10, 1, none⟩) (show (w.heap.size + 1) ≠ g10 by omega) (.slice FA nF cF)
              replace b2 := (b2.far (p := ⟨g10, 0, none⟩) (show (w.heap.size + 2) ≠ g10 by omega) (.bool false)).far (p := ⟨g10, 1, none⟩) (show (w.heap.size + 2) ≠ g10 by omega) (.slice FA nF cF)
              replace n10 := (n10.set_ 0 (.bool false)).set_ 1 (.slice FA nF cF)
              replace hC := (hC.setCell (p := ⟨g10, 0, none⟩) hs10 (.bool false)).setCell (p := ⟨g10, 1, none⟩) hs10 (.slice FA nF cF)
              obtain ⟨x22, hx22⟩ : ∃ x, (x21.setCell ⟨g10, 0, none⟩ (.bool false)).setCell ⟨g10, 1, none⟩ (.slice FA nF cF) = x := ⟨_, rfl⟩
              rw [hx22] at hC b0 b1 b2 n10 zp zq zt zA zB zF ⊢
              clear hx22
              clear hH
              refine hK.out _ _ (cells6 b0 b1 b2) (fun hH => ?_)
              clear hK K
              (try simp only [List.getElem_toArray, List.getElem_cons_zero, List.getElem_cons_succ, Act.put, List.setIfInBounds_toArray, List.set_cons_zero, List.set_cons_succ])
              refine wpAnyH_take (i := 12) (v := ?_) rfl (by kernel_rfl) (by kernel_rfl) (by kernel_rfl) (fun _ _ _ h => h) (Or.inl ⟨by rfl, ?_⟩) (by assumption) ?_
              rotate_left
              · intro w' hSw
                (try dsimp only at hSw)
                obtain ⟨q0, q1, q2, q3, q4, q5⟩ := hSw
                go_simp
                try with_reducible rfl
              (try simp only [List.getElem_toArray, List.getElem_cons_zero, List.getElem_cons_succ, Act.put, List.setIfInBounds_toArray, List.set_cons_zero, List.set_cons_succ])
              refine wpAnyH_done (by kernel_rfl) ?_ _
              clear hH
              go_wp2
              go_meet
              first | exact ⟨rfl, g10, _, _, _, rfl, hs10, n10, zF, hC⟩ | ((repeat apply Exists.intro); exact ⟨⟨rfl, g10, _, _, _, rfl, hs10, n10, zF, hC⟩, rfl⟩)
            exact AllReadyH.nil
          exact AllReadyH.nil
        exact AllReadyH.nil
      exact AllReadyH.nil
    exact AllReadyH.nil
  case rest =>
  obtain ⟨rfl, g4, SA, nS, cS, rfl, hgg4, b4, zS, hcc8⟩ := hcut
  have ch7 := ch6.trans (hcc8.mono ch6.size)
  replace b0 := b0.below hcc8 b0.lt
  replace b1 := b1.below hcc8 b1.lt
  replace b2 := b2.below hcc8 b2.lt
  replace b3 := b3.below hcc8 b3.lt
  replace zp := zp.below hcc8
  replace zq := zq.below hcc8
  replace zt := zt.below hcc8
  replace zG := zG.below hcc8
  clear HUP8
  have up9 : ∀ b ∈ [w.heap.size, (w.heap.size + 1), (w.heap.size + 2), u3.heap.size, g4], b < wc.heap.size := by
    intro b hb
    simp only [List.mem_cons, List.mem_nil_iff, or_false] at hb
    rcases hb with rfl | rfl | rfl | rfl | rfl
    · exact b0.lt
    · exact b1.lt
    · exact b2.lt
    · exact b3.lt
    · exact b4.lt
  have HUP9 : Hid _ := up9
  clear up9
  have c0b0 := (b0.cell 0).trans (b := some (Value.bool x)) rfl
  have c1b0 := (b0.cell 1).trans (b := some (Value.slice A na ca)) rfl
  have c0b1 := (b1.cell 0).trans (b := some (Value.bool y)) rfl
  have c1b1 := (b1.cell 1).trans (b := some (Value.slice B nb cb)) rfl
  have c0b2 := (b2.cell 0).trans (b := some (Value.bool z)) rfl
  have c1b2 := (b2.cell 1).trans (b := some (Value.slice C nc cc)) rfl
  have c0b3 := (b3.cell 0).trans (b := some (Value.bool false)) rfl
  have c1b3 := (b3.cell 1).trans (b := some (Value.slice GA nG cG)) rfl
  have c0b4 := (b4.cell 0).trans (b := some (Value.bool false)) rfl
  have c1b4 := (b4.cell 1).trans (b := some (Value.slice SA nS cS)) rfl
  go_upto_region 9 with fail
  clear c0b0 c1b0 c0b1 c1b1 c0b2 c1b2 c0b3 c1b3 c0b4 c1b4
  go_cut [11, 12] from 50 to 59 (fun s1 s2 wx => s2 = .int .i64 0 ∧ OneZ wc wx s1 (G * (t.natAbs : Int)))
  case first =>
    clear zG zS b3 b4 ch7
    have lt_b0 := b0.lt
    have lt_b1 := b1.lt
    have lt_b2 := b2.lt
    replace b0 := b0.drew
    replace b1 := b1.drew
    replace b2 := b2.drew
    replace zp := whz_drew zp
    replace zq := whz_drew zq
    replace zt := whz_drew zt
    have hC : Below wc.heap.size wc wc.drew := (Below.refl _ _).drew
    refine wp_region_held_drew (S := fun w' => w'.cell? ⟨w.heap.size, 0, none⟩ = some (.bool x) ∧ w'.cell? ⟨w.heap.size, 1, none⟩ = some (.slice A na ca) ∧ w'.cell? ⟨(w.heap.size + 1), 0, none⟩ = some (.bool y) ∧ w'.cell? ⟨(w.heap.size + 1), 1, none⟩ = some (.slice B nb cb) ∧ w'.cell? ⟨(w.heap.size + 2), 0, none⟩ = some (.bool z) ∧ w'.cell? ⟨(w.heap.size + 2), 1, none⟩ = some (.slice C nc cc)) (by kernel_rfl) (cells6 b0 b1 b2) (fun hH => ?_)
    obtain ⟨x0, hx0⟩ : ∃ x, wc.drew = x := ⟨_, rfl⟩
    rw [hx0] at hH hC b0 b1 b2 zp zq zt ⊢
    clear hx0
    refine wpAnyH_take (i := 0) (v := ?_) rfl (by kernel_rfl) (by kernel_rfl) (by kernel_rfl) (fun _ _ _ h => h) (Or.inl ⟨by rfl, ?_⟩) (by assumption) ?_
    rotate_left
    · intro w' hSw
      (try dsimp only at hSw)
      obtain ⟨q0, q1, q2, q3, q4, q5⟩ := hSw
      go_simp
      try with_reducible rfl
    (try simp only [List.getElem_toArray, List.getElem_cons_zero, List.getElem_cons_succ, Act.put, List.setIfInBounds_toArray, List.set_cons_zero, List.set_cons_succ])
    refine wpAnyH_take (i := 1) (v := ?_) rfl (by kernel_rfl) (by kernel_rfl) (by kernel_rfl) (fun _ _ _ h => h) (Or.inl ⟨by rfl, ?_⟩) (by assumption) ?_
    rotate_left
    · intro w' hSw
      (try dsimp only at hSw)
      obtain ⟨q0, q1, q2, q3, q4, q5⟩ := hSw
      go_simp
      try with_reducible rfl
    (try simp only [List.getElem_toArray, List.getElem_cons_zero, List.getElem_cons_succ, Act.put, List.setIfInBounds_toArray, List.set_cons_zero, List.set_cons_succ])
    refine wpAnyH_take (i := 3) (v := ?_) rfl (by kernel_rfl) (by kernel_rfl) (by kernel_rfl) (fun _ _ _ h => h) (Or.inl ⟨by rfl, ?_⟩) (by assumption) ?_
    rotate_left
    · intro w' hSw
      (try dsimp only at hSw)
      obtain ⟨q0, q1, q2, q3, q4, q5⟩ := hSw
      go_simp
      try with_reducible rfl
    (try simp only [List.getElem_toArray, List.getElem_cons_zero, List.getElem_cons_succ, Act.put, List.setIfInBounds_toArray, List.set_cons_zero, List.set_cons_succ])
    refine wpAnyH_take (i := 4) (v := ?_) rfl (by kernel_rfl) (by kernel_rfl) (by kernel_rfl) (fun _ _ _ h => h) (Or.inl ⟨by rfl, ?_⟩) (by assumption) ?_
    rotate_left
    · intro w' hSw
      (try dsimp only at hSw)
      obtain ⟨q0, q1, q2, q3, q4, q5⟩ := hSw
      go_simp
      try with_reducible rfl
    (try simp only [List.getElem_toArray, List.getElem_cons_zero, List.getElem_cons_succ, Act.put, List.setIfInBounds_toArray, List.set_cons_zero, List.set_cons_succ])
    refine wpAnyH_ready (rs := [2, 10]) (by kernel_rfl) (by simp) ?_
    refine AllReadyH.cons rfl (fun K hK => ?_) ?_
    · skip
      go_simp
      refine (prodv zp zt kzp_.out kzt_.out kA8.out).mono ?_
      rintro e x23 ⟨vA, rfl, zA, hb23⟩
      replace b0 := b0.below hb23 b0.lt
      replace b1 := b1.below hb23 b1.lt
      replace b2 := b2.below hb23 b2.lt
      replace zp := zp.below hb23
      replace zq := zq.below hb23
      replace zt := zt.below hb23
      replace hC := hC.trans (hb23.mono hC.size)
      clear hb23
      clear hH
      refine hK.out _ _ (cells6 b0 b1 b2) (fun hH => ?_)
      clear hK K
      (try simp only [List.getElem_toArray, List.getElem_cons_zero, List.getElem_cons_succ, Act.put, List.setIfInBounds_toArray, List.set_cons_zero, List.set_cons_succ])
      refine wpAnyH_ready (rs := [5, 10]) (by kernel_rfl) (by simp) ?_
      refine AllReadyH.cons rfl (fun K hK => ?_) ?_
      · skip
        go_simp
        refine (prodv zq zt kzq_.out kzt_.out kC8.out).mono ?_
        rintro e x24 ⟨vB, rfl, zB, hb24⟩
        replace b0 := b0.below hb24 b0.lt
        replace b1 := b1.below hb24 b1.lt
        replace b2 := b2.below hb24 b2.lt
        replace zp := zp.below hb24
        replace zq := zq.below hb24
        replace zt := zt.below hb24
        replace zA := zA.below hb24
        replace hC := hC.trans (hb24.mono hC.size)
        clear hb24
        clear hH
        refine hK.out _ _ (cells6 b0 b1 b2) (fun hH => ?_)
        clear hK K
        (try simp only [List.getElem_toArray, List.getElem_cons_zero, List.getElem_cons_succ, Act.put, List.setIfInBounds_toArray, List.set_cons_zero, List.set_cons_succ])
        refine wpAnyH_ready (rs := [6, 10]) (by kernel_rfl) (by simp) ?_
        refine AllReadyH.cons rfl (fun K hK => ?_) ?_
        · skip
          go_simp
          refine (HG9.out _ _ _ zA zB).mono ?_
          rintro e x25 ⟨FA, nF, cF, rfl, zF, hb25⟩
          replace b0 := b0.below hb25 b0.lt
          replace b1 := b1.below hb25 b1.lt
          replace b2 := b2.below hb25 b2.lt
          replace zp := zp.below hb25
          replace zq := zq.below hb25
          replace zt := zt.below hb25
          replace zA := zA.below hb25
          replace zB := zB.below hb25
          replace hC := hC.trans (hb25.mono hC.size)
          clear hb25
          clear hH
          refine hK.out _ _ (cells6 b0 b1 b2) (fun hH => ?_)
          clear hK K
          (try simp only [List.getElem_toArray, List.getElem_cons_zero, List.getElem_cons_succ, Act.put, List.setIfInBounds_toArray, List.set_cons_zero, List.set_cons_succ])
          refine wpAnyH_take (i := 7) (v := ?_) rfl (by kernel_rfl) (by kernel_rfl) (by kernel_rfl) (fun _ _ _ h => h) (Or.inl ⟨by rfl, ?_⟩) (by assumption) ?_
          rotate_left
          · intro w' hSw
            (try dsimp only at hSw)
            obtain ⟨q0, q1, q2, q3, q4, q5⟩ := hSw
            go_simp
            try with_reducible rfl
          (try simp only [List.getElem_toArray, List.getElem_cons_zero, List.getElem_cons_succ, Act.put, List.setIfInBounds_toArray, List.set_cons_zero, List.set_cons_succ])
          refine wpAnyH_take (i := 8) (v := ?_) rfl (by kernel_rfl) (by kernel_rfl) (by kernel_rfl) (fun _ _ _ h => h) (Or.inl ⟨by rfl, ?_⟩) (by assumption) ?_
          rotate_left
          · intro w' hSw
            (try dsimp only at hSw)
            obtain ⟨q0, q1, q2, q3, q4, q5⟩ := hSw
            go_simp
            try with_reducible rfl
          (try simp only [List.getElem_toArray, List.getElem_cons_zero, List.getElem_cons_succ, Act.put, List.setIfInBounds_toArray, List.set_cons_zero, List.set_cons_succ])
          refine wpAnyH_take (i := 9) (v := ?_) rfl (by kernel_rfl) (by kernel_rfl) (by kernel_rfl) (fun _ _ _ h => h) (Or.inl ⟨by rfl, ?_⟩) (by assumption) ?_
          rotate_left
          · intro w' hSw
            (try dsimp only at hSw)
            obtain ⟨q0, q1, q2, q3, q4, q5⟩ := hSw
            go_simp
            try with_reducible rfl
          (try simp only [List.getElem_toArray, List.getElem_cons_zero, List.getElem_cons_succ, Act.put, List.setIfInBounds_toArray, List.set_cons_zero, List.set_cons_succ])
          refine wpAnyH_ready (rs := [10]) (by kernel_rfl) (by simp) ?_
          refine AllReadyH.cons rfl (fun K hK => ?_) ?_
          · skip
            go_simp
            have n10 := Blk.new x25 26 #[.bool false, .slice none 0 0]
            have hb26 : Below x25.heap.size x25 (x25.alloc (.cells #[.bool false, .slice none 0 0] 26)) := (Below.refl _ _).alloc (Nat.le_refl _) _
            obtain ⟨x26, hx26⟩ : ∃ x, x25.alloc (.cells #[.bool false, .slice none 0 0] 26) = x := ⟨_, rfl⟩
            obtain ⟨g10, hg10⟩ : ∃ g, x25.heap.size = g := ⟨_, rfl⟩
            have hs10 : wc.heap.size ≤ g10 := by rw [← hg10]; exact hC.size
            replace b0 := b0.below hb26 b0.lt
            replace b1 := b1.below hb26 b1.lt
            replace b2 := b2.below hb26 b2.lt
            replace zp := zp.below hb26
            replace zq := zq.below hb26
            replace zt := zt.below hb26
            replace zA := zA.below hb26
            replace zB := zB.below hb26
            replace zF := zF.below hb26
            replace hC := hC.trans (hb26.mono hC.size)
            clear hb26
            rw [hx26] at n10 hC b0 b1 b2 zp zq zt zA zB zF ⊢
            rw [hg10] at n10 ⊢
            clear hx26 hg10
            clear hH
            refine hK.out _ _ (cells6 b0 b1 b2) (fun hH => ?_)
            clear hK K
            (try simp only [List.getElem_toArray, List.getElem_cons_zero, List.getElem_cons_succ, Act.put, List.setIfInBounds_toArray, List.set_cons_zero, List.set_cons_succ])
            refine wpAnyH_ready (rs := [11]) (by kernel_rfl) (by simp) ?_
            refine AllReadyH.cons rfl (fun K hK => ?_) ?_
            · skip
              have p027 := (n10.cell 0).trans (b := some (Value.bool false)) rfl
              have p127 := (n10.cell 1).trans (b := some (Value.slice none 0 0)) rfl
              have p227 := n10.frozen 0
              have p327 := n10.frozen 1
              have p427 := n10.lt
              go_simp
              clear p027 p127 p227 p327 p427
              replace zp := whz_store2 zp n10 false FA nF cF
              replace zq := whz_store2 zq n10 false FA nF cF
              replace zt := whz_store2 zt n10 false FA nF cF
              replace zA := whz_store2 zA n10 false FA nF cF
              replace zB := whz_store2 zB n10 false FA nF cF
              replace zF := whz_store2 zF n10 false FA nF cF
              replace b0 := (b0.far (p := ⟨g10, 0, none⟩) (show w.heap.size ≠ g10 by omega) (.bool false)).far (p := ⟨g10, 1, none⟩) (show w.heap.size ≠ g10 by omega) (.slice FA nF cF)
              replace b1 := (b1.far (p := ⟨g10, 0, none⟩) (show (w.heap.size + 1) ≠ g10 by omega) (.bool false)).far (p := ⟨g10, 1, none⟩) (show (w.heap.size + 1) ≠ g10 by omega) (.slice FA nF cF)
              replace b2 := (b2.far (p := ⟨g10, 0, none⟩) (show (w.heap.size + 2) ≠ g10 by omega) (.bool false)).far (p := ⟨g10, 1, none⟩) (show (w.heap.size + 2) ≠ g10 by omega) (.slice FA nF cF)
              replace n10 := (n10.set_ 0 (.bool false)).set_ 1 (.slice FA nF cF)
              replace hC := (hC.setCell (p := ⟨g10, 0, none⟩) hs10 (.bool false)).setCell (p := ⟨g10, 1, none⟩) hs10 (.slice FA nF cF)
              obtain ⟨x27, hx27⟩ : ∃ x, (x26.setCell ⟨g10, 0, none⟩ (.bool false)).setCell ⟨g10, 1, none⟩ (.slice FA nF cF) = x := ⟨_, rfl⟩
              rw [hx27] at hC b0 b1 b2 n10 zp zq zt zA zB zF ⊢
              clear hx27
              clear hH
              refine hK.out _ _ (cells6 b0 b1 b2) (fun hH => ?_)
              clear hK K
              (try simp only [List.getElem_toArray, List.getElem_cons_zero, List.getElem_cons_succ, Act.put, List.setIfInBounds_toArray, List.set_cons_zero, List.set_cons_succ])
              refine wpAnyH_take (i := 12) (v := ?_) rfl (by kernel_rfl) (by kernel_rfl) (by kernel_rfl) (fun _ _ _ h => h) (Or.inl ⟨by rfl, ?_⟩) (by assumption) ?_
              rotate_left
              · intro w' hSw
                (try dsimp only at hSw)
                obtain ⟨q0, q1, q2, q3, q4, q5⟩ := hSw
                go_simp
                try with_reducible rfl
              (try simp only [List.getElem_toArray, List.getElem_cons_zero, List.getElem_cons_succ, Act.put, List.setIfInBounds_toArray, List.set_cons_zero, List.set_cons_succ])
              refine wpAnyH_done (by kernel_rfl) ?_ _
              clear hH
              go_wp2
              go_meet
              first | exact ⟨rfl, g10, _, _, _, rfl, hs10, n10, zF, hC⟩ | ((repeat apply Exists.intro); exact ⟨⟨rfl, g10, _, _, _, rfl, hs10, n10, zF, hC⟩, rfl⟩)
            exact AllReadyH.nil
          exact AllReadyH.nil
        refine AllReadyH.cons rfl (fun K hK => ?_) ?_
        · skip
          go_simp
          have n10 := Blk.new x24 26 #[.bool false, .slice none 0 0]
          have hb28 : Below x24.heap.size x24 (x24.alloc (.cells #[.bool false, .slice none 0 0] 26)) := (Below.refl _ _).alloc (Nat.le_refl _) _
          obtain ⟨x28, hx28⟩ : ∃ x, x24.alloc (.cells #[.bool false, .slice none 0 0] 26) = x := ⟨_, rfl⟩
          obtain ⟨g10, hg10⟩ : ∃ g, x24.heap.size = g := ⟨_, rfl⟩
          have hs10 : wc.heap.size ≤ g10 := by rw [← hg10]; exact hC.size
          replace b0 := b0.below hb28 b0.lt
          replace b1 := b1.below hb28 b1.lt
          replace b2 := b2.below hb28 b2.lt
          replace zp := zp.below hb28
          replace zq := zq.below hb28
          replace zt := zt.below hb28
          replace zA := zA.below hb28
          replace zB := zB.below hb28
          replace hC := hC.trans (hb28.mono hC.size)
          clear hb28
          rw [hx28] at n10 hC b0 b1 b2 zp zq zt zA zB ⊢
          rw [hg10] at n10 ⊢
          clear hx28 hg10
          clear hH
          refine hK.out _ _ (cells6 b0 b1 b2) (fun hH => ?_)
          clear hK K
          (try simp only [List.getElem_toArray, List.getElem_cons_zero, List.getElem_cons_succ, Act.put, List.setIfInBounds_toArray, List.set_cons_zero, List.set_cons_succ])
          refine wpAnyH_ready (rs := [6]) (by kernel_rfl) (by simp) ?_
          refine AllReadyH.cons rfl (fun K hK => ?_) ?_
          · skip
            go_simp
            refine (HG9.out _ _ _ zA zB).mono ?_
            rintro e x29 ⟨FA, nF, cF, rfl, zF, hb29⟩
            replace b0 := b0.below hb29 b0.lt
            replace b1 := b1.below hb29 b1.lt
            replace b2 := b2.below hb29 b2.lt
            replace n10 := n10.below hb29 n10.lt
            replace zp := zp.below hb29
            replace zq := zq.below hb29
            replace zt := zt.below hb29
            replace zA := zA.below hb29
            replace zB := zB.below hb29
            replace hC := hC.trans (hb29.mono hC.size)
            clear hb29
            clear hH
            refine hK.out _ _ (cells6 b0 b1 b2) (fun hH => ?_)
            clear hK K
            (try simp only [List.getElem_toArray, List.getElem_cons_zero, List.getElem_cons_succ, Act.put, List.setIfInBounds_toArray, List.set_cons_zero, List.set_cons_succ])
            refine wpAnyH_take (i := 7) (v := ?_) rfl (by kernel_rfl) (by kernel_rfl) (by kernel_rfl) (fun _ _ _ h => h) (Or.inl ⟨by rfl, ?_⟩) (by assumption) ?_
            rotate_left
            · intro w' hSw
              (try dsimp only at hSw)
              obtain ⟨q0, q1, q2, q3, q4, q5⟩ := hSw
              go_simp
              try with_reducible rfl
            (try simp only [List.getElem_toArray, List.getElem_cons_zero, List.getElem_cons_succ, Act.put, List.setIfInBounds_toArray, List.set_cons_zero, List.set_cons_succ])
            refine wpAnyH_take (i := 8) (v := ?_) rfl (by kernel_rfl) (by kernel_rfl) (by kernel_rfl) (fun _ _ _ h => h) (Or.inl ⟨by rfl, ?_⟩) (by assumption) ?_
            rotate_left
            · intro w' hSw
              (try dsimp only at hSw)
              obtain ⟨q0, q1, q2, q3, q4, q5⟩ := hSw
              go_simp
              try with_reducible rfl
            (try simp only [List.getElem_toArray, List.getElem_cons_zero, List.getElem_cons_succ, Act.put, List.setIfInBounds_toArray, List.set_cons_zero, List.set_cons_succ])
            refine wpAnyH_take (i := 9) (v := ?_) rfl (by kernel_rfl) (by kernel_rfl) (by kernel_rfl) (fun _ _ _ h => h) (Or.inl ⟨by rfl, ?_⟩) (by assumption) ?_
            rotate_left
            · intro w' hSw
              (try dsimp only at hSw)
              obtain ⟨q0, q1, q2, q3, q4, q5⟩ := hSw
              go_simp
              try with_reducible rfl
            (try simp only [List.getElem_toArray, List.getElem_cons_zero, List.getElem_cons_succ, Act.put, List.setIfInBounds_toArray, List.set_cons_zero, List.set_cons_succ])
            refine wpAnyH_ready (rs := [11]) (by kernel_rfl) (by simp) ?_
            refine AllReadyH.cons rfl (fun K hK => ?_) ?_
            · skip
              have p030 := (n10.cell 0).trans (b := some (Value.bool false)) rfl
              have p130 := (n10.cell 1).trans (b := some (Value.slice none 0 0)) rfl
              have p230 := n10.frozen 0
              have p330 := n10.frozen 1
              have p430 := n10.lt
              go_simp
              clear p030 p130 p230 p330 p430
              replace zp := whz_store2 zp n10 false FA nF cF
              replace zq := whz_store2 zq n10 false FA nF cF
              replace zt := whz_store2 zt n10 false FA nF cF
              replace zA := whz_store2 zA n10 false FA nF cF
              replace zB := whz_store2 zB n10 false FA nF cF
              replace zF := whz_store2 zF n10 false FA nF cF
              replace b0 := (b0.far (p := ⟨g10, 0, none⟩) (show w.heap.size ≠ g10 by omega) (.bool false)).far (p := ⟨g10, 1, none⟩) (show w.heap.size ≠ g10 by omega) (.slice FA nF cF)
              replace b1 := (b1.far (p := ⟨g10, 0, none⟩) (show (w.heap.size + 1) ≠ g10 by omega) (.bool false)).far (p := ⟨g10, 1, none⟩) (show (w.heap.size + 1) ≠ g10 by omega) (.slice FA nF cF)
              replace b2 := (b2.far (p := ⟨g10, 0, none⟩) (show (w.heap.size + 2) ≠ g10 by omega) (.bool false)).far (p := ⟨g10, 1, none⟩) (show (w.heap.size + 2) ≠ g10 by omega) (.slice FA nF cF)
              replace n10 := (n10.set_ 0 (.bool false)).set_ 1 (.slice FA nF cF)
              replace hC := (hC.setCell (p := ⟨g10, 0, none⟩) hs10 (.bool false)).setCell (p := ⟨g10, 1, none⟩) hs10 (.slice FA nF cF)
              obtain ⟨x30, hx30⟩ : ∃ x, (x29.setCell ⟨g10, 0, none⟩ (.bool false)).setCell ⟨g10, 1, none⟩ (.slice FA nF cF) = x := ⟨_, rfl⟩
              rw [hx30] at hC b0 b1 b2 n10 zp zq zt zA zB zF ⊢
              clear hx30
              clear hH
              refine hK.out _ _ (cells6 b0 b1 b2) (fun hH => ?_)
              clear hK K
              (try simp only [List.getElem_toArray, List.getElem_cons_zero, List.getElem_cons_succ, Act.put, List.setIfInBounds_toArray, List.set_cons_zero, List.set_cons_succ])
              refine wpAnyH_take (i := 12) (v := ?_) rfl (by kernel_rfl) (by kernel_rfl) (by kernel_rfl) (fun _ _ _ h => h) (Or.inl ⟨by rfl, ?_⟩) (by assumption) ?_
              rotate_left
              · intro w' hSw
                (try dsimp only at hSw)
                obtain ⟨q0, q1, q2, q3, q4, q5⟩ := hSw
                go_simp
                try with_reducible rfl
              (try simp only [List.getElem_toArray, List.getElem_cons_zero, List.getElem_cons_succ, Act.put, List.setIfInBounds_toArray, List.set_cons_zero, List.set_cons_succ])
              refine wpAnyH_done (by kernel_rfl) ?_ _
              clear hH
              go_wp2
              go_meet
              first | exact ⟨rfl, g10, _, _, _, rfl, hs10, n10, zF, hC⟩ | ((repeat apply Exists.intro); exact ⟨⟨rfl, g10, _, _, _, rfl, hs10, n10, zF, hC⟩, rfl⟩)
            exact AllReadyH.nil
          exact AllReadyH.nil
        exact AllReadyH.nil
      refine AllReadyH.cons rfl (fun K hK => ?_) ?_
      · skip
        go_simp
        have n10 := Blk.new x23 26 #[.bool false, .slice none 0 0]
        have hb31 : Below x23.heap.size x23 (x23.alloc (.cells #[.bool false, .slice none 0 0] 26)) := (Below.refl _ _).alloc (Nat.le_refl _) _
        obtain ⟨x31, hx31⟩ : ∃ x, x23.alloc (.cells #[.bool false, .slice none 0 0] 26) = x := ⟨_, rfl⟩
        obtain ⟨g10, hg10⟩ : ∃ g, x23.heap.size = g := ⟨_, rfl⟩
        have hs10 : wc.heap.size ≤ g10 := by rw [← hg10]; exact hC.size
        replace b0 := b0.below hb31 b0.lt
        replace b1 := b1.below hb31 b1.lt
        replace b2 := b2.below hb31 b2.lt
        replace zp := zp.below hb31
        replace zq := zq.below hb31
        replace zt := zt.below hb31
        replace zA := zA.below hb31
        replace hC := hC.trans (hb31.mono hC.size)
        clear hb31
        rw [hx31] at n10 hC b0 b1 b2 zp zq zt zA ⊢
        rw [hg10] at n10 ⊢
        clear hx31 hg10
        clear hH
        refine hK.out _ _ (cells6 b0 b1 b2) (fun hH => ?_)
        clear hK K
        (try simp only [List.getElem_toArray, List.getElem_cons_zero, List.getElem_cons_succ, Act.put, List.setIfInBounds_toArray, List.set_cons_zero, List.set_cons_succ])
        refine wpAnyH_ready (rs := [5]) (by kernel_rfl) (by simp) ?_
        refine AllReadyH.cons rfl (fun K hK => ?_) ?_
        · skip
          go_simp
          refine (prodv zq zt kzq_.out kzt_.out kC8.out).mono ?_
          rintro e x32 ⟨vB, rfl, zB, hb32⟩
          replace b0 := b0.below hb32 b0.lt
          replace b1 := b1.below hb32 b1.lt
          replace b2 := b2.below hb32 b2.lt
          replace n10 := n10.below hb32 n10.lt
          replace zp := zp.below hb32
          replace zq := zq.below hb32
          replace zt := zt.below hb32
          replace zA := zA.below hb32
          replace hC := hC.trans (hb32.mono hC.size)
          clear hb32
          clear hH
          refine hK.out _ _ (cells6 b0 b1 b2) (fun hH => ?_)
          clear hK K
          (try simp only [List.getElem_toArray, List.getElem_cons_zero, List.getElem_cons_succ, Act.put, List.setIfInBounds_toArray, List.set_cons_zero, List.set_cons_succ])
          refine wpAnyH_ready (rs := [6]) (by kernel_rfl) (by simp) ?_
          refine AllReadyH.cons rfl (fun K hK => ?_) ?_
          · skip
            go_simp
            refine (HG9.out _ _ _ zA zB).mono ?_
            rintro e x33 ⟨FA, nF, cF, rfl, zF, hb33⟩
            replace b0 := b0.below hb33 b0.lt
            replace b1 := b1.below hb33 b1.lt
            replace b2 := b2.below hb33 b2.lt
            replace n10 := n10.below hb33 n10.lt
            replace zp := zp.below hb33
            replace zq := zq.below hb33
            replace zt := zt.below hb33
            replace zA := zA.below hb33
            replace zB := zB.below hb33
            replace hC := hC.trans (hb33.mono hC.size)
            clear hb33
            clear hH
            refine hK.out _ _ (cells6 b0 b1 b2) (fun hH => ?_)
            clear hK K
            (try simp only [List.getElem_toArray, List.getElem_cons_zero, List.getElem_cons_succ, Act.put, List.setIfInBounds_toArray, List.set_cons_zero, List.set_cons_succ])
            refine wpAnyH_take (i := 7) (v := ?_) rfl (by kernel_rfl) (by kernel_rfl) (by kernel_rfl) (fun _ _ _ h => h) (Or.inl ⟨by rfl, ?_⟩) (by assumption) ?_
            rotate_left
            · intro w' hSw
              (try dsimp only at hSw)
              obtain ⟨q0, q1, q2, q3, q4, q5⟩ := hSw
              go_simp
              try with_reducible rfl
            (try simp only [List.getElem_toArray, List.getElem_cons_zero, List.getElem_cons_succ, Act.put, List.setIfInBounds_toArray, List.set_cons_zero, List.set_cons_succ])
            refine wpAnyH_take (i := 8) (v := ?_) rfl (by kernel_rfl) (by kernel_rfl) (by kernel_rfl) (fun _ _ _ h => h) (Or.inl ⟨by rfl, ?_⟩) (by assumption) ?_
            rotate_left
            · intro w' hSw
              (try dsimp only at hSw)
              obtain ⟨q0, q1, q2, q3, q4, q5⟩ := hSw
              go_simp
              try with_reducible rfl
            (try simp only [List.getElem_toArray, List.getElem_cons_zero, List.getElem_cons_succ, Act.put, List.setIfInBounds_toArray, List.set_cons_zero, List.set_cons_succ])
            refine wpAnyH_take (i := 9) (v := ?_) rfl (by kernel_rfl) (by kernel_rfl) (by kernel_rfl) (fun _ _ _ h => h) (Or.inl ⟨by rfl, ?_⟩) (by assumption) ?_
            rotate_left
            · intro w' hSw
              (try dsimp only at hSw)
              obtain ⟨q0, q1, q2, q3, q4, q5⟩ := hSw
              go_simp
              try with_reducible rfl
            (try simp only [List.getElem_toArray, List.getElem_cons_zero, List.getElem_cons_succ, Act.put, List.setIfInBounds_toArray, List.set_cons_zero, List.set_cons_succ])
            refine wpAnyH_ready (rs := [11]) (by kernel_rfl) (by simp) ?_
            refine AllReadyH.cons rfl (fun K hK => ?_) ?_
            · skip
              have p034 := (n10.cell 0).trans (b := some (Value.bool false)) rfl
              have p134 := (n10.cell 1).trans (b := some (Value.slice none 0 0)) rfl
              have p234 := n10.frozen 0
              have p334 := n10.frozen 1
              have p434 := n10.lt
              go_simp
              clear p034 p134 p234 p334 p434
              replace zp := whz_store2 zp n10 false FA nF cF
              replace zq := whz_store2 zq n10 false FA nF cF
              replace zt := whz_store2 zt n10 false FA nF cF
              replace zA := whz_store2 zA n10 false FA nF cF
              replace zB := whz_store2 zB n10 false FA nF cF
              replace zF := whz_store2 zF n10 false FA nF cF
              replace b0 := (b0.far (p := ⟨g10, 0, none⟩) (show w.heap.size ≠ g10 by omega) (.bool false)).far (p := ⟨g10, 1, none⟩) (show w.heap.size ≠ g10 by omega) (.slice FA nF cF)
              replace b1 := (b1.far (p := ⟨g10, 0, none⟩) (show (w.heap.size + 1) ≠ g10 by omega) (.bool false)).far (p := ⟨g10, 1, none⟩) (show (w.heap.size + 1) ≠ g10 by omega) (.slice FA nF cF)
              replace b2 := (b2.far (p := ⟨g10, 0, none⟩) (show (w.heap.size + 2) ≠ g10 by omega) (.bool false)).far (p := ⟨g10, 1, none⟩) (show (w.heap.size + 2) ≠ g10 by omega) (.slice FA nF cF)
              replace n10 := (n10.set_ 0 (.bool false)).set_ 1 (.slice FA nF cF)
              replace hC := (hC.setCell (p := ⟨g10, 0, none⟩) hs10 (.bool false)).setCell (p := ⟨g10, 1, none⟩) hs10 (.slice FA nF cF)
              obtain ⟨x34, hx34⟩ : ∃ x, (x33.setCell ⟨g10, 0, none⟩ (.bool false)).setCell ⟨g10, 1, none⟩ (.slice FA nF cF) = x := ⟨_, rfl⟩
              rw [hx34] at hC b0 b1 b2 n10 zp zq zt zA zB zF ⊢
              clear hx34
              clear hH
              refine hK.out _ _ (cells6 b0 b1 b2) (fun hH => ?_)
              clear hK K
              (try simp only [List.getElem_toArray, List.getElem_cons_zero, List.getElem_cons_succ, Act.put, List.setIfInBounds_toArray, List.set_cons_zero, List.set_cons_succ])
              refine wpAnyH_take (i := 12) (v := ?_) rfl (by kernel_rfl) (by kernel_rfl) (by kernel_rfl) (fun _ _ _ h => h) (Or.inl ⟨by rfl, ?_⟩) (by assumption) ?_
              rotate_left
              · intro w' hSw
                (try dsimp only at hSw)
                obtain ⟨q0, q1, q2, q3, q4, q5⟩ := hSw
                go_simp
                try with_reducible rfl
              (try simp only [List.getElem_toArray, List.getElem_cons_zero, List.getElem_cons_succ, Act.put, List.setIfInBounds_toArray, List.set_cons_zero, List.set_cons_succ])
              refine wpAnyH_done (by kernel_rfl) ?_ _
              clear hH
              go_wp2
              go_meet
              first | exact ⟨rfl, g10, _, _, _, rfl, hs10, n10, zF, hC⟩ | ((repeat apply Exists.intro); exact ⟨⟨rfl, g10, _, _, _, rfl, hs10, n10, zF, hC⟩, rfl⟩)
            exact AllReadyH.nil
          exact AllReadyH.nil
        exact AllReadyH.nil
      exact AllReadyH.nil
    refine AllReadyH.cons rfl (fun K hK => ?_) ?_
    · skip
      go_simp
      have n10 := Blk.new x0 26 #[.bool false, .slice none 0 0]
      have hb35 : Below x0.heap.size x0 (x0.alloc (.cells #[.bool false, .slice none 0 0] 26)) := (Below.refl _ _).alloc (Nat.le_refl _) _
      obtain ⟨x35, hx35⟩ : ∃ x, x0.alloc (.cells #[.bool false, .slice none 0 0] 26) = x := ⟨_, rfl⟩
      obtain ⟨g10, hg10⟩ : ∃ g, x0.heap.size = g := ⟨_, rfl⟩
      have hs10 : wc.heap.size ≤ g10 := by rw [← hg10]; exact hC.size
      replace b0 := b0.below hb35 b0.lt
      replace b1 := b1.below hb35 b1.lt
      replace b2 := b2.below hb35 b2.lt
      replace zp := zp.below hb35
      replace zq := zq.below hb35
      replace zt := zt.below hb35
      replace hC := hC.trans (hb35.mono hC.size)
      clear hb35
      rw [hx35] at n10 hC b0 b1 b2 zp zq zt ⊢
      rw [hg10] at n10 ⊢
      clear hx35 hg10
      clear hH
      refine hK.out _ _ (cells6 b0 b1 b2) (fun hH => ?_)
      clear hK K
      (try simp only [List.getElem_toArray, List.getElem_cons_zero, List.getElem_cons_succ, Act.put, List.setIfInBounds_toArray, List.set_cons_zero, List.set_cons_succ])
      refine wpAnyH_ready (rs := [2]) (by kernel_rfl) (by simp) ?_
      refine AllReadyH.cons rfl (fun K hK => ?_) ?_
      · skip
        go_simp
        refine (prodv zp zt kzp_.out kzt_.out kA8.out).mono ?_
        rintro e x36 ⟨vA, rfl, zA, hb36⟩
        replace b0 := b0.below hb36 b0.lt
        replace b1 := b1.below hb36 b1.lt
        replace b2 := b2.below hb36 b2.lt
        replace n10 := n10.below hb36 n10.lt
        replace zp := zp.below hb36
        replace zq := zq.below hb36
        replace zt := zt.below hb36
        replace hC := hC.trans (hb36.mono hC.size)
        clear hb36
        clear hH
        refine hK.out _ _ (cells6 b0 b1 b2) (fun hH => ?_)
        clear hK K
        (try simp only [List.getElem_toArray, List.getElem_cons_zero, List.getElem_cons_succ, Act.put, List.setIfInBounds_toArray, List.set_cons_zero, List.set_cons_succ])
        refine wpAnyH_ready (rs := [5]) (by kernel_rfl) (by simp) ?_
        refine AllReadyH.cons rfl (fun K hK => ?_) ?_
        · skip
          go_simp
          refine (prodv zq zt kzq_.out kzt_.out kC8.out).mono ?_
          rintro e x37 ⟨vB, rfl, zB, hb37⟩
          replace b0 := b0.below hb37 b0.lt
          replace b1 := b1.below hb37 b1.lt
          replace b2 := b2.below hb37 b2.lt
          replace n10 := n10.below hb37 n10.lt
          replace zp := zp.below hb37
          replace zq := zq.below hb37
          replace zt := zt.below hb37
          replace zA := zA.below hb37
          replace hC := hC.trans (hb37.mono hC.size)
          clear hb37
          clear hH
          refine hK.out _ _ (cells6 b0 b1 b2) (fun hH => ?_)
          clear hK K
          (try simp only [List.getElem_toArray, List.getElem_cons_zero, List.getElem_cons_succ, Act.put, List.setIfInBounds_toArray, List.set_cons_zero, List.set_cons_succ])
          refine wpAnyH_ready (rs := [6]) (by kernel_rfl) (by simp) ?_
          refine AllReadyH.cons rfl (fun K hK => ?_) ?_
          · skip
            go_simp
            refine (HG9.out _ _ _ zA zB).mono ?_
            rintro e x38 ⟨FA, nF, cF, rfl, zF, hb38⟩
            replace b0 := b0.below hb38 b0.lt
            replace b1 := b1.below hb38 b1.lt
            replace b2 := b2.below hb38 b2.lt
            replace n10 := n10.below hb38 n10.lt
            replace zp := zp.below hb38
            replace zq := zq.below hb38
            replace zt := zt.below hb38
            replace zA := zA.below hb38
            replace zB := zB.below hb38
            replace hC := hC.trans (hb38.mono hC.size)
            clear hb38
            clear hH
            refine hK.out _ _ (cells6 b0 b1 b2) (fun hH => ?_)
            clear hK K
            (try simp only [List.getElem_toArray, List.getElem_cons_zero, List.getElem_cons_succ, Act.put, List.setIfInBounds_toArray, List.set_cons_zero, List.set_cons_succ])
            refine wpAnyH_take (i := 7) (v := ?_) rfl (by kernel_rfl) (by kernel_rfl) (by kernel_rfl) (fun _ _ _ h => h) (Or.inl ⟨by rfl, ?_⟩) (by assumption) ?_
            rotate_left
            · intro w' hSw
              (try dsimp only at hSw)
              obtain ⟨q0, q1, q2, q3, q4, q5⟩ := hSw
              go_simp
              try with_reducible rfl
            (try simp only [List.getElem_toArray, List.getElem_cons_zero, List.getElem_cons_succ, Act.put, List.setIfInBounds_toArray, List.set_cons_zero, List.set_cons_succ])
            refine wpAnyH_take (i := 8) (v := ?_) rfl (by kernel_rfl) (by kernel_rfl) (by kernel_rfl) (fun _ _ _ h => h) (Or.inl ⟨by rfl, ?_⟩) (by assumption) ?_
            rotate_left
            · intro w' hSw
              (try dsimp only at hSw)
              obtain ⟨q0, q1, q2, q3, q4, q5⟩ := hSw
              go_simp
              try with_reducible rfl
            (try simp only [List.getElem_toArray, List.getElem_cons_zero, List.getElem_cons_succ, Act.put, List.setIfInBounds_toArray, List.set_cons_zero, List.set_cons_succ])
            refine wpAnyH_take (i := 9) (v := ?_) rfl (by kernel_rfl) (by kernel_rfl) (by kernel_rfl) (fun _ _ _ h => h) (Or.inl ⟨by rfl, ?_⟩) (by assumption) ?_
            rotate_left
            · intro w' hSw
              (try dsimp only at hSw)
              obtain ⟨q0, q1, q2, q3, q4, q5⟩ := hSw
              go_simp
              try with_reducible rfl
            (try simp only [List.getElem_toArray, List.getElem_cons_zero, List.getElem_cons_succ, Act.put, List.setIfInBounds_toArray, List.set_cons_zero, List.set_cons_succ])
            refine wpAnyH_ready (rs := [11]) (by kernel_rfl) (by simp) ?_
            refine AllReadyH.cons rfl (fun K hK => ?_) ?_
            · skip
              have p039 := (n10.cell 0).trans (b := some (Value.bool false)) rfl
              have p139 := (n10.cell 1).trans (b := some (Value.slice none 0 0)) rfl
              have p239 := n10.frozen 0
              have p339 := n10.frozen 1
              have p439 := n10.lt
              go_simp
              clear p039 p139 p239 p339 p439
              replace zp := whz_store2 zp n10 false FA nF cF
              replace zq := whz_store2 zq n10 false FA nF cF
              replace zt := whz_store2 zt n10 false FA nF cF
              replace zA := whz_store2 zA n10 false FA nF cF
              replace zB := whz_store2 zB n10 false FA nF cF
              replace zF := whz_store2 zF n10 false FA nF cF
              replace b0 := (b0.far (p := ⟨g10, 0, none⟩) (show w.heap.size ≠ g10 by omega) (.bool false)).far (p := ⟨g10, 1, none⟩) (show w.heap.size ≠ g10 by omega) (.slice FA nF cF)
              replace b1 := (b1.far (p := ⟨g10, 0, none⟩) (show (w.heap.size + 1) ≠ g10 by omega) (.bool false)).far (p := ⟨g10, 1, none⟩) (show (w.heap.size + 1) ≠ g10 by omega) (.slice FA nF cF)
              replace b2 := (b2.far (p := ⟨g10, 0, none⟩) (show (w.heap.size + 2) ≠ g10 by omega) (.bool false)).far (p := ⟨g10, 1, none⟩) (show (w.heap.size + 2) ≠ g10 by omega) (.slice FA nF cF)
              replace n10 := (n10.set_ 0 (.bool false)).set_ 1 (.slice FA nF cF)
              replace hC := (hC.setCell (p := ⟨g10, 0, none⟩) hs10 (.bool false)).setCell (p := ⟨g10, 1, none⟩) hs10 (.slice FA nF cF)
              obtain ⟨x39, hx39⟩ : ∃ x, (x38.setCell ⟨g10, 0, none⟩ (.bool false)).setCell ⟨g10, 1, none⟩ (.slice FA nF cF) = x := ⟨_, rfl⟩
              rw [hx39] at hC b0 b1 b2 n10 zp zq zt zA zB zF ⊢
              clear hx39
              clear hH
              refine hK.out _ _ (cells6 b0 b1 b2) (fun hH => ?_)
              clear hK K
              (try simp only [List.getElem_toArray, List.getElem_cons_zero, List.getElem_cons_succ, Act.put, List.setIfInBounds_toArray, List.set_cons_zero, List.set_cons_succ])
              refine wpAnyH_take (i := 12) (v := ?_) rfl (by kernel_rfl) (by kernel_rfl) (by kernel_rfl) (fun _ _ _ h => h) (Or.inl ⟨by rfl, ?_⟩) (by assumption) ?_
              rotate_left
              · intro w' hSw
                (try dsimp only at hSw)
                obtain ⟨q0, q1, q2, q3, q4, q5⟩ := hSw
                go_simp
                try with_reducible rfl
              (try simp only [List.getElem_toArray, List.getElem_cons_zero, List.getElem_cons_succ, Act.put, List.setIfInBounds_toArray, List.set_cons_zero, List.set_cons_succ])
              refine wpAnyH_done (by kernel_rfl) ?_ _
              clear hH
              go_wp2
              go_meet
              first | exact ⟨rfl, g10, _, _, _, rfl, hs10, n10, zF, hC⟩ | ((repeat apply Exists.intro); exact ⟨⟨rfl, g10, _, _, _, rfl, hs10, n10, zF, hC⟩, rfl⟩)
            exact AllReadyH.nil
          exact AllReadyH.nil
        exact AllReadyH.nil
      exact AllReadyH.nil
    exact AllReadyH.nil
  case rest =>
  obtain ⟨rfl, g5, KA, nK, cK, rfl, hgg5, b5, zK, hcc9⟩ := hcut
  have ch8 := ch7.trans (hcc9.mono ch7.size)
  replace b0 := b0.below hcc9 b0.lt
  replace b1 := b1.below hcc9 b1.lt
  replace b2 := b2.below hcc9 b2.lt
  replace b3 := b3.below hcc9 b3.lt
  replace b4 := b4.below hcc9 b4.lt
  replace zp := zp.below hcc9
  replace zq := zq.below hcc9
  replace zt := zt.below hcc9
  replace zG := zG.below hcc9
  replace zS := zS.below hcc9
  clear HUP9
  have zU := whz_abs zt
  have kU_ : Hid (Lz 1024 (t.natAbs : Int)) := by show Lz _ _; unfold Lz; rw [Int.natAbs_natCast]; exact kzt_.out
  have kV_ : Hid (Lz 1024 (G * (t.natAbs : Int))) := by
    have h : Lz 40 (t.natAbs : Int) := by have := lzt_.out; unfold Lz at *; rw [Int.natAbs_natCast]; exact this
    exact (lzG_.out.mul h).mono (by omega)
  have c0b0 := (b0.cell 0).trans (b := some (Value.bool x)) rfl
  have c1b0 := (b0.cell 1).trans (b := some (Value.slice A na ca)) rfl
  have c0b1 := (b1.cell 0).trans (b := some (Value.bool y)) rfl
  have c1b1 := (b1.cell 1).trans (b := some (Value.slice B nb cb)) rfl
  have c0b2 := (b2.cell 0).trans (b := some (Value.bool z)) rfl
  have c1b2 := (b2.cell 1).trans (b := some (Value.slice C nc cc)) rfl
  have c0b3 := (b3.cell 0).trans (b := some (Value.bool false)) rfl
  have c1b3 := (b3.cell 1).trans (b := some (Value.slice GA nG cG)) rfl
  have c0b4 := (b4.cell 0).trans (b := some (Value.bool false)) rfl
  have c1b4 := (b4.cell 1).trans (b := some (Value.slice SA nS cS)) rfl
  have c0b5 := (b5.cell 0).trans (b := some (Value.bool false)) rfl
  have c1b5 := (b5.cell 1).trans (b := some (Value.slice KA nK cK)) rfl
  go_upto_region 10 with fail
  clear c0b0 c1b0 c0b1 c1b1 c0b2 c1b2 c0b3 c1b3 c0b4 c1b4 c0b5 c1b5
  go_cut [81] from 60 to 81 (fun c wx => c = .bool false ∧ Below wc.heap.size wc wx)
  case first =>
    have hq10 : Below wc.heap.size wc wc := Below.refl _ _
    clear ch8
    clear b0 b1 zp zq zt
    replace b4 := b4.drew
    replace b3 := b3.drew
    replace b5 := b5.drew
    replace b2 := b2.drew
    replace zG := whz_drew zG
    replace zS := whz_drew zS
    replace zK := whz_drew zK
    replace zU := whz_drew zU
    have ch_40_0 := hq10.drew
    clear hq10
    have kk_40_0 := cellsE8 b4 b3 b5 b2
    refine wp_region_held_drew (S := fun w' => w'.cell? ⟨g4, 0, none⟩ = some (.bool false) ∧ w'.cell? ⟨g4, 1, none⟩ = some (.slice SA nS cS) ∧ w'.cell? ⟨u3.heap.size, 0, none⟩ = some (.bool false) ∧ w'.cell? ⟨u3.heap.size, 1, none⟩ = some (.slice GA nG cG) ∧ w'.cell? ⟨g5, 0, none⟩ = some (.bool false) ∧ w'.cell? ⟨g5, 1, none⟩ = some (.slice KA nK cK) ∧ w'.cell? ⟨(w.heap.size + 2), 0, none⟩ = some (.bool z) ∧ w'.cell? ⟨(w.heap.size + 2), 1, none⟩ = some (.slice C nc cc)) (by kernel_rfl) kk_40_0 (fun hH => ?_)
    clear kk_40_0
    refine wpAnyH_take (i := 0) (v := ?_) rfl (by kernel_rfl) (by kernel_rfl) (by kernel_rfl) (fun _ _ _ h => h) (Or.inl ⟨by rfl, ?_⟩) (by assumption) ?_
    rotate_left
    · intro w' hSw
      (try dsimp only at hSw)
      obtain ⟨q0, q1, q2, q3, q4, q5, q6, q7⟩ := hSw
      go_simp
      try with_reducible rfl
    (try simp only [List.getElem_toArray, List.getElem_cons_zero, List.getElem_cons_succ, Act.put, List.setIfInBounds_toArray, List.set_cons_zero, List.set_cons_succ])
    refine wpAnyH_take (i := 1) (v := ?_) rfl (by kernel_rfl) (by kernel_rfl) (by kernel_rfl) (fun _ _ _ h => h) (Or.inl ⟨by rfl, ?_⟩) (by assumption) ?_
    rotate_left
    · intro w' hSw
      (try dsimp only at hSw)
      obtain ⟨q0, q1, q2, q3, q4, q5, q6, q7⟩ := hSw
      go_simp
      try with_reducible rfl
    (try simp only [List.getElem_toArray, List.getElem_cons_zero, List.getElem_cons_succ, Act.put, List.setIfInBounds_toArray, List.set_cons_zero, List.set_cons_succ])
    refine wpAnyH_take (i := 2) (v := ?_) rfl (by kernel_rfl) (by kernel_rfl) (by kernel_rfl) (fun _ _ _ h => h) (Or.inl ⟨by rfl, ?_⟩) (by assumption) ?_
    rotate_left
    · intro w' hSw
      (try dsimp only at hSw)
      obtain ⟨q0, q1, q2, q3, q4, q5, q6, q7⟩ := hSw
      go_simp
      try with_reducible rfl
    (try simp only [List.getElem_toArray, List.getElem_cons_zero, List.getElem_cons_succ, Act.put, List.setIfInBounds_toArray, List.set_cons_zero, List.set_cons_succ])
    refine wpAnyH_take (i := 3) (v := ?_) rfl (by kernel_rfl) (by kernel_rfl) (by kernel_rfl) (fun _ _ _ h => h) (Or.inl ⟨by rfl, ?_⟩) (by assumption) ?_
    rotate_left
    · intro w' hSw
      (try dsimp only at hSw)
      obtain ⟨q0, q1, q2, q3, q4, q5, q6, q7⟩ := hSw
      go_simp
      try with_reducible rfl
    (try simp only [List.getElem_toArray, List.getElem_cons_zero, List.getElem_cons_succ, Act.put, List.setIfInBounds_toArray, List.set_cons_zero, List.set_cons_succ])
    refine wpAnyH_take (i := 4) (v := ?_) rfl (by kernel_rfl) (by kernel_rfl) (by kernel_rfl) (fun _ _ _ h => h) (Or.inl ⟨by rfl, ?_⟩) (by assumption) ?_
    rotate_left
    · intro w' hSw
      (try dsimp only at hSw)
      obtain ⟨q0, q1, q2, q3, q4, q5, q6, q7⟩ := hSw
      go_simp
      try with_reducible rfl
    (try simp only [List.getElem_toArray, List.getElem_cons_zero, List.getElem_cons_succ, Act.put, List.setIfInBounds_toArray, List.set_cons_zero, List.set_cons_succ])
    refine wpAnyH_take (i := 5) (v := ?_) rfl (by kernel_rfl) (by kernel_rfl) (by kernel_rfl) (fun _ _ _ h => h) (Or.inl ⟨by rfl, ?_⟩) (by assumption) ?_
    rotate_left
    · intro w' hSw
      (try dsimp only at hSw)
      obtain ⟨q0, q1, q2, q3, q4, q5, q6, q7⟩ := hSw
      go_simp
      try with_reducible rfl
    (try simp only [List.getElem_toArray, List.getElem_cons_zero, List.getElem_cons_succ, Act.put, List.setIfInBounds_toArray, List.set_cons_zero, List.set_cons_succ])
    refine wpAnyH_take (i := 6) (v := ?_) rfl (by kernel_rfl) (by kernel_rfl) (by kernel_rfl) (fun _ _ _ h => h) (Or.inl ⟨by rfl, ?_⟩) (by assumption) ?_
    rotate_left
    · intro w' hSw
      (try dsimp only at hSw)
      obtain ⟨q0, q1, q2, q3, q4, q5, q6, q7⟩ := hSw
      go_simp
      try with_reducible rfl
    (try simp only [List.getElem_toArray, List.getElem_cons_zero, List.getElem_cons_succ, Act.put, List.setIfInBounds_toArray, List.set_cons_zero, List.set_cons_succ])
    refine wpAnyH_take (i := 7) (v := ?_) rfl (by kernel_rfl) (by kernel_rfl) (by kernel_rfl) (fun _ _ _ h => h) (Or.inl ⟨by rfl, ?_⟩) (by assumption) ?_
    rotate_left
    · intro w' hSw
      (try dsimp only at hSw)
      obtain ⟨q0, q1, q2, q3, q4, q5, q6, q7⟩ := hSw
      go_simp
      try with_reducible rfl
    (try simp only [List.getElem_toArray, List.getElem_cons_zero, List.getElem_cons_succ, Act.put, List.setIfInBounds_toArray, List.set_cons_zero, List.set_cons_succ])
    refine wpAnyH_take (i := 8) (v := ?_) rfl (by kernel_rfl) (by kernel_rfl) (by kernel_rfl) (fun _ _ _ h => h) (Or.inl ⟨by rfl, ?_⟩) (by assumption) ?_
    rotate_left
    · intro w' hSw
      (try dsimp only at hSw)
      obtain ⟨q0, q1, q2, q3, q4, q5, q6, q7⟩ := hSw
      go_simp
      try with_reducible rfl
    (try simp only [List.getElem_toArray, List.getElem_cons_zero, List.getElem_cons_succ, Act.put, List.setIfInBounds_toArray, List.set_cons_zero, List.set_cons_succ])
    refine wpAnyH_ready (rs := [9]) (by kernel_rfl) (by simp) ?_
    refine AllReadyH.cons rfl (fun K hK => ?_) AllReadyH.nil
    go_simp
    refine (equal_l zS zG kzG_.out kzG_.out rfl).mono ?_
    rintro e w_40_1 ⟨rfl, hb_40_1⟩
    replace b4 := b4.below hb_40_1 b4.lt
    replace b3 := b3.below hb_40_1 b3.lt
    replace b5 := b5.below hb_40_1 b5.lt
    replace b2 := b2.below hb_40_1 b2.lt
    replace zG := zG.below hb_40_1
    replace zS := zS.below hb_40_1
    replace zK := zK.below hb_40_1
    replace zU := zU.below hb_40_1
    have ch_40_1 := ch_40_0.trans (hb_40_1.mono ch_40_0.size)
    refine hK.out _ _ (cellsE8 b4 b3 b5 b2) (fun hH1 => ?_)
    clear hK K ch_40_0 hb_40_1 hH
    have hH := hH1
    clear hH1
    (try simp only [List.getElem_toArray, List.getElem_cons_zero, List.getElem_cons_succ, Act.put, List.setIfInBounds_toArray, List.set_cons_zero, List.set_cons_succ])
    refine wpAnyH_take (i := 10) (v := ?_) rfl (by kernel_rfl) (by kernel_rfl) (by kernel_rfl) (fun _ _ _ h => h) (Or.inl ⟨by rfl, ?_⟩) (by assumption) ?_
    rotate_left
    · intro w' hSw
      (try dsimp only at hSw)
      obtain ⟨q0, q1, q2, q3, q4, q5, q6, q7⟩ := hSw
      go_simp
      try with_reducible rfl
    (try simp only [List.getElem_toArray, List.getElem_cons_zero, List.getElem_cons_succ, Act.put, List.setIfInBounds_toArray, List.set_cons_zero, List.set_cons_succ])
    refine wpAnyH_take (i := 11) (v := ?_) rfl (by kernel_rfl) (by kernel_rfl) (by kernel_rfl) (fun _ _ _ h => h) (Or.inl ⟨by rfl, ?_⟩) (by assumption) ?_
    rotate_left
    · intro w' hSw
      (try dsimp only at hSw)
      obtain ⟨q0, q1, q2, q3, q4, q5, q6, q7⟩ := hSw
      go_simp
      try with_reducible rfl
    (try simp only [List.getElem_toArray, List.getElem_cons_zero, List.getElem_cons_succ, Act.put, List.setIfInBounds_toArray, List.set_cons_zero, List.set_cons_succ])
    refine wpAnyH_take (i := 12) (v := ?_) rfl (by kernel_rfl) (by kernel_rfl) (by kernel_rfl) (fun _ _ _ h => h) (Or.inl ⟨by rfl, ?_⟩) (by assumption) ?_
    rotate_left
    · intro w' hSw
      (try dsimp only at hSw)
      obtain ⟨q0, q1, q2, q3, q4, q5, q6, q7⟩ := hSw
      go_simp
      try with_reducible rfl
    (try simp only [List.getElem_toArray, List.getElem_cons_zero, List.getElem_cons_succ, Act.put, List.setIfInBounds_toArray, List.set_cons_zero, List.set_cons_succ])
    refine wpAnyH_take (i := 13) (v := ?_) rfl (by kernel_rfl) (by kernel_rfl) (by kernel_rfl) (fun _ _ _ h => h) (Or.inl ⟨by rfl, ?_⟩) (by assumption) ?_
    rotate_left
    · intro w' hSw
      (try dsimp only at hSw)
      obtain ⟨q0, q1, q2, q3, q4, q5, q6, q7⟩ := hSw
      go_simp
      try with_reducible rfl
    (try simp only [List.getElem_toArray, List.getElem_cons_zero, List.getElem_cons_succ, Act.put, List.setIfInBounds_toArray, List.set_cons_zero, List.set_cons_succ])
    refine wpAnyH_take (i := 14) (v := ?_) rfl (by kernel_rfl) (by kernel_rfl) (by kernel_rfl) (fun _ _ _ h => h) (Or.inl ⟨by rfl, ?_⟩) (by assumption) ?_
    rotate_left
    · intro w' hSw
      (try dsimp only at hSw)
      obtain ⟨q0, q1, q2, q3, q4, q5, q6, q7⟩ := hSw
      go_simp
      try with_reducible rfl
    (try simp only [List.getElem_toArray, List.getElem_cons_zero, List.getElem_cons_succ, Act.put, List.setIfInBounds_toArray, List.set_cons_zero, List.set_cons_succ])
    refine wpAnyH_take (i := 15) (v := ?_) rfl (by kernel_rfl) (by kernel_rfl) (by kernel_rfl) (fun _ _ _ h => h) (Or.inl ⟨by rfl, ?_⟩) (by assumption) ?_
    rotate_left
    · intro w' hSw
      (try dsimp only at hSw)
      obtain ⟨q0, q1, q2, q3, q4, q5, q6, q7⟩ := hSw
      go_simp
      try with_reducible rfl
    (try simp only [List.getElem_toArray, List.getElem_cons_zero, List.getElem_cons_succ, Act.put, List.setIfInBounds_toArray, List.set_cons_zero, List.set_cons_succ])
    refine wpAnyH_take (i := 16) (v := ?_) rfl (by kernel_rfl) (by kernel_rfl) (by kernel_rfl) (fun _ _ _ h => h) (Or.inl ⟨by rfl, ?_⟩) (by assumption) ?_
    rotate_left
    · intro w' hSw
      (try dsimp only at hSw)
      obtain ⟨q0, q1, q2, q3, q4, q5, q6, q7⟩ := hSw
      go_simp
      try with_reducible rfl
    (try simp only [List.getElem_toArray, List.getElem_cons_zero, List.getElem_cons_succ, Act.put, List.setIfInBounds_toArray, List.set_cons_zero, List.set_cons_succ])
    refine wpAnyH_take (i := 17) (v := ?_) rfl (by kernel_rfl) (by kernel_rfl) (by kernel_rfl) (fun _ _ _ h => h) (Or.inl ⟨by rfl, ?_⟩) (by assumption) ?_
    rotate_left
    · intro w' hSw
      (try dsimp only at hSw)
      obtain ⟨q0, q1, q2, q3, q4, q5, q6, q7⟩ := hSw
      go_simp
      try with_reducible rfl
    (try simp only [List.getElem_toArray, List.getElem_cons_zero, List.getElem_cons_succ, Act.put, List.setIfInBounds_toArray, List.set_cons_zero, List.set_cons_succ])
    refine wpAnyH_ready (rs := [18]) (by kernel_rfl) (by simp) ?_
    refine AllReadyH.cons rfl (fun K hK => ?_) AllReadyH.nil
    go_simp
    refine (prodv zG zU kzG_.out kU_.out kV_.out).mono ?_
    rintro e w_40_2 ⟨vzV, rfl, zV, hb_40_2⟩
    replace b4 := b4.below hb_40_2 b4.lt
    replace b3 := b3.below hb_40_2 b3.lt
    replace b5 := b5.below hb_40_2 b5.lt
    replace b2 := b2.below hb_40_2 b2.lt
    replace zG := zG.below hb_40_2
    replace zS := zS.below hb_40_2
    replace zK := zK.below hb_40_2
    replace zU := zU.below hb_40_2
    have ch_40_2 := ch_40_1.trans (hb_40_2.mono ch_40_1.size)
    refine hK.out _ _ (cellsE8 b4 b3 b5 b2) (fun hH2 => ?_)
    clear hK K ch_40_1 hb_40_2 hH
    have hH := hH2
    clear hH2
    (try simp only [List.getElem_toArray, List.getElem_cons_zero, List.getElem_cons_succ, Act.put, List.setIfInBounds_toArray, List.set_cons_zero, List.set_cons_succ])
    refine wpAnyH_ready (rs := [19]) (by kernel_rfl) (by simp) ?_
    refine AllReadyH.cons rfl (fun K hK => ?_) AllReadyH.nil
    go_simp
    refine (equal_l zK zV kV_.out kV_.out rfl).mono ?_
    rintro e w_40_3 ⟨rfl, hb_40_3⟩
    replace b4 := b4.below hb_40_3 b4.lt
    replace b3 := b3.below hb_40_3 b3.lt
    replace b5 := b5.below hb_40_3 b5.lt
    replace b2 := b2.below hb_40_3 b2.lt
    replace zG := zG.below hb_40_3
    replace zS := zS.below hb_40_3
    replace zK := zK.below hb_40_3
    replace zU := zU.below hb_40_3
    clear zV
    have ch_40_3 := ch_40_2.trans (hb_40_3.mono ch_40_2.size)
    refine hK.out _ _ (cellsE8 b4 b3 b5 b2) (fun hH3 => ?_)
    clear hK K ch_40_2 hb_40_3 hH
    have hH := hH3
    clear hH3
    (try simp only [List.getElem_toArray, List.getElem_cons_zero, List.getElem_cons_succ, Act.put, List.setIfInBounds_toArray, List.set_cons_zero, List.set_cons_succ])
    refine wpAnyH_take (i := 20) (v := ?_) rfl (by kernel_rfl) (by kernel_rfl) (by kernel_rfl) (fun _ _ _ h => h) (Or.inl ⟨by rfl, ?_⟩) (by assumption) ?_
    rotate_left
    · intro w' hSw
      (try dsimp only at hSw)
      obtain ⟨q0, q1, q2, q3, q4, q5, q6, q7⟩ := hSw
      go_simp
      try with_reducible rfl
    (try simp only [List.getElem_toArray, List.getElem_cons_zero, List.getElem_cons_succ, Act.put, List.setIfInBounds_toArray, List.set_cons_zero, List.set_cons_succ])
    refine wpAnyH_take (i := 21) (v := ?_) rfl (by kernel_rfl) (by kernel_rfl) (by kernel_rfl) (fun _ _ _ h => h) (Or.inl ⟨by rfl, ?_⟩) (by assumption) ?_
    rotate_left
    · intro w' hSw
      (try dsimp only at hSw)
      obtain ⟨q0, q1, q2, q3, q4, q5, q6, q7⟩ := hSw
      go_simp
      try with_reducible rfl
    (try simp only [List.getElem_toArray, List.getElem_cons_zero, List.getElem_cons_succ, Act.put, List.setIfInBounds_toArray, List.set_cons_zero, List.set_cons_succ])
    refine wpAnyH_done (by kernel_rfl) ?_ _
    clear hH
    have ch9 := ch_40_3
    clear ch_40_3
    go_wp2
    go_meet
    exact ⟨rfl, ch9⟩
  case rest =>
  obtain ⟨rfl, hcb10⟩ := hcut
  have ch9 := ch8.trans (hcb10.mono ch8.size)
  replace b0 := b0.below hcb10 b0.lt
  replace b1 := b1.below hcb10 b1.lt
  replace b2 := b2.below hcb10 b2.lt
  replace b3 := b3.below hcb10 b3.lt
  replace b4 := b4.below hcb10 b4.lt
  replace b5 := b5.below hcb10 b5.lt
  replace zp := zp.below hcb10
  replace zq := zq.below hcb10
  replace zt := zt.below hcb10
  replace zG := zG.below hcb10
  replace zS := zS.below hcb10
  replace zK := zK.below hcb10
  replace zU := zU.below hcb10
  clear zS zK zU zt
  clear b4 b5 b2
  have hnG := whz_none zG
  have hna := whz_none zp
  have hnb := whz_none zq
  by_cases g0 : G = 0
  · have hG0 : Int.gcd p q = 0 := by have := HG.out; omega
    obtain ⟨hp0, hq0⟩ := Int.gcd_eq_zero_iff.1 hG0
    subst hp0 hq0
    rw [g0] at hnG
    simp only [Int.natAbs_zero, digs_zero, List.length_nil] at hnG hna hnb
    subst hnG hna hnb
    have c0b0 := (b0.cell 0).trans (b := some (Value.bool x)) rfl
    have c1b0 := (b0.cell 1).trans (b := some (Value.slice A 0 ca)) rfl
    have c0b1 := (b1.cell 0).trans (b := some (Value.bool y)) rfl
    have c1b1 := (b1.cell 1).trans (b := some (Value.slice B 0 cb)) rfl
    have c0b3 := (b3.cell 0).trans (b := some (Value.bool false)) rfl
    have c1b3 := (b3.cell 1).trans (b := some (Value.slice GA 0 cG)) rfl
    go_wp2
    go_ret
    exact ⟨rfl, ch9⟩
  · have hnG0 : 0 < nG := by rw [hnG]; exact pos_digs (by omega)
    clear hnG hna hnb
    obtain ⟨m, n, e1, e2, e3⟩ := gcd_parts (p := p) (q := q) (by have := HG.out; omega)
    rw [HG.out] at e1 e2
    have km : Hid (Lz 1024 m) := by
      have h := kzp_.out
      have h2 : p.natAbs = m.natAbs * G.natAbs := by rw [← e1, Int.natAbs_mul]
      have h3 : m.natAbs * 1 ≤ m.natAbs * G.natAbs := Nat.mul_le_mul_left _ (by omega)
      rw [lz_iff] at h
      exact lz_iff.2 (by omega)
    have kn : Hid (Lz 1024 n) := by
      have h := kzq_.out
      have h2 : q.natAbs = n.natAbs * G.natAbs := by rw [← e2, Int.natAbs_mul]
      have h3 : n.natAbs * 1 ≤ n.natAbs * G.natAbs := Nat.mul_le_mul_left _ (by omega)
      rw [lz_iff] at h
      exact lz_iff.2 (by omega)
    have HE : Hid (m * G = p ∧ n * G = q ∧ G ≠ 0) := ⟨e1, e2, g0⟩
    have HG14 : Hid (∀ w va vb, WhZ w va m → WhZ w vb n → Calls Try.prog 36 #[va, vb] w _) := gcd_to km.out kn.out (G := 1) (by rw [e3]; rfl)
    clear e1 e2 e3 g0
    have up14 : ∀ b ∈ [w.heap.size, u3.heap.size, (w.heap.size + 1)], b < wc.heap.size := by
      intro b hb
      simp only [List.mem_cons, List.mem_nil_iff, or_false] at hb
      rcases hb with rfl | rfl | rfl
      · exact b0.lt
      · exact b3.lt
      · exact b1.lt
    have HUP14 : Hid _ := up14
    clear up14
    have c0b0 := (b0.cell 0).trans (b := some (Value.bool x)) rfl
    have c1b0 := (b0.cell 1).trans (b := some (Value.slice A na ca)) rfl
    have c0b3 := (b3.cell 0).trans (b := some (Value.bool false)) rfl
    have c1b3 := (b3.cell 1).trans (b := some (Value.slice GA nG cG)) rfl
    have c0b1 := (b1.cell 0).trans (b := some (Value.bool y)) rfl
    have c1b1 := (b1.cell 1).trans (b := some (Value.slice B nb cb)) rfl
    go_upto_region 14 with fail
    clear c0b0 c1b0 c0b3 c1b3 c0b1 c1b1
    go_cut [13, 14] from 82 to 105 (fun s1 s2 wx => s2 = .int .i64 0 ∧ OneZ wc wx s1 1)
    case first =>
      clear ch9
      have lt_b0 := b0.lt
      have lt_b3 := b3.lt
      have lt_b1 := b1.lt
      replace b0 := b0.drew
      replace b3 := b3.drew
      replace b1 := b1.drew
      replace zp := whz_drew zp
      replace zq := whz_drew zq
      replace zG := whz_drew zG
      have hC : Below wc.heap.size wc wc.drew := (Below.refl _ _).drew
      refine wp_region_held_drew (S := fun w' => w'.cell? ⟨w.heap.size, 0, none⟩ = some (.bool x) ∧ w'.cell? ⟨w.heap.size, 1, none⟩ = some (.slice A na ca) ∧ w'.cell? ⟨u3.heap.size, 0, none⟩ = some (.bool false) ∧ w'.cell? ⟨u3.heap.size, 1, none⟩ = some (.slice GA nG cG) ∧ w'.cell? ⟨(w.heap.size + 1), 0, none⟩ = some (.bool y) ∧ w'.cell? ⟨(w.heap.size + 1), 1, none⟩ = some (.slice B nb cb)) (by kernel_rfl) (cellsE6 b0 b3 b1) (fun hH => ?_)
      obtain ⟨x0, hx0⟩ : ∃ x, wc.drew = x := ⟨_, rfl⟩
      rw [hx0] at hH hC b0 b3 b1 zp zq zG ⊢
      clear hx0
      refine wpAnyH_take (i := 0) (v := ?_) rfl (by kernel_rfl) (by kernel_rfl) (by kernel_rfl) (fun _ _ _ h => h) (Or.inl ⟨by rfl, ?_⟩) (by assumption) ?_
      rotate_left
      · intro w' hSw
        (try dsimp only at hSw)
        obtain ⟨q0, q1, q2, q3, q4, q5⟩ := hSw
        go_simp
        try with_reducible rfl
      (try simp only [List.getElem_toArray, List.getElem_cons_zero, List.getElem_cons_succ, Act.put, List.setIfInBounds_toArray, List.set_cons_zero, List.set_cons_succ])
      refine wpAnyH_take (i := 1) (v := ?_) rfl (by kernel_rfl) (by kernel_rfl) (by kernel_rfl) (fun _ _ _ h => h) (Or.inl ⟨by rfl, ?_⟩) (by assumption) ?_
      rotate_left
      · intro w' hSw
        (try dsimp only at hSw)
        obtain ⟨q0, q1, q2, q3, q4, q5⟩ := hSw
        go_simp
        try with_reducible rfl
      (try simp only [List.getElem_toArray, List.getElem_cons_zero, List.getElem_cons_succ, Act.put, List.setIfInBounds_toArray, List.set_cons_zero, List.set_cons_succ])
      refine wpAnyH_take (i := 3) (v := ?_) rfl (by kernel_rfl) (by kernel_rfl) (by kernel_rfl) (fun _ _ _ h => h) (Or.inl ⟨by rfl, ?_⟩) (by assumption) ?_
      rotate_left
      · intro w' hSw
        (try dsimp only at hSw)
        obtain ⟨q0, q1, q2, q3, q4, q5⟩ := hSw
        go_simp
        try with_reducible rfl
      (try simp only [List.getElem_toArray, List.getElem_cons_zero, List.getElem_cons_succ, Act.put, List.setIfInBounds_toArray, List.set_cons_zero, List.set_cons_succ])
      refine wpAnyH_take (i := 4) (v := ?_) rfl (by kernel_rfl) (by kernel_rfl) (by kernel_rfl) (fun _ _ _ h => h) (Or.inl ⟨by rfl, ?_⟩) (by assumption) ?_
      rotate_left
      · intro w' hSw
        (try dsimp only at hSw)
        obtain ⟨q0, q1, q2, q3, q4, q5⟩ := hSw
        go_simp
        try with_reducible rfl
      (try simp only [List.getElem_toArray, List.getElem_cons_zero, List.getElem_cons_succ, Act.put, List.setIfInBounds_toArray, List.set_cons_zero, List.set_cons_succ])
      refine wpAnyH_ready (rs := [2, 10]) (by kernel_rfl) (by simp) ?_
      refine AllReadyH.cons rfl (fun K hK => ?_) ?_
      · skip
        go_simp
        refine (divv zp zG kzp_.out kzG_.out HE.out.2.2 HE.out.1).mono ?_
        rintro e x41 ⟨vA, rfl, zA, hb41⟩
        replace b0 := b0.below hb41 b0.lt
        replace b3 := b3.below hb41 b3.lt
        replace b1 := b1.below hb41 b1.lt
        replace zp := zp.below hb41
        replace zq := zq.below hb41
        replace zG := zG.below hb41
        replace hC := hC.trans (hb41.mono hC.size)
        clear hb41
        clear hH
        refine hK.out _ _ (cellsE6 b0 b3 b1) (fun hH => ?_)
        clear hK K
        (try simp only [List.getElem_toArray, List.getElem_cons_zero, List.getElem_cons_succ, Act.put, List.setIfInBounds_toArray, List.set_cons_zero, List.set_cons_succ])
        refine wpAnyH_ready (rs := [5, 10]) (by kernel_rfl) (by simp) ?_
        refine AllReadyH.cons rfl (fun K hK => ?_) ?_
        · skip
          go_simp
          refine (divv zq zG kzq_.out kzG_.out HE.out.2.2 HE.out.2.1).mono ?_
          rintro e x42 ⟨vB, rfl, zB, hb42⟩
          replace b0 := b0.below hb42 b0.lt
          replace b3 := b3.below hb42 b3.lt
          replace b1 := b1.below hb42 b1.lt
          replace zp := zp.below hb42
          replace zq := zq.below hb42
          replace zG := zG.below hb42
          replace zA := zA.below hb42
          replace hC := hC.trans (hb42.mono hC.size)
          clear hb42
          clear hH
          refine hK.out _ _ (cellsE6 b0 b3 b1) (fun hH => ?_)
          clear hK K
          (try simp only [List.getElem_toArray, List.getElem_cons_zero, List.getElem_cons_succ, Act.put, List.setIfInBounds_toArray, List.set_cons_zero, List.set_cons_succ])
          refine wpAnyH_ready (rs := [6, 10]) (by kernel_rfl) (by simp) ?_
          refine AllReadyH.cons rfl (fun K hK => ?_) ?_
          · skip
            go_simp
            refine (HG14.out _ _ _ zA zB).mono ?_
            rintro e x43 ⟨FA, nF, cF, rfl, zF, hb43⟩
            replace b0 := b0.below hb43 b0.lt
            replace b3 := b3.below hb43 b3.lt
            replace b1 := b1.below hb43 b1.lt
            replace zp := zp.below hb43
            replace zq := zq.below hb43
            replace zG := zG.below hb43
            replace zA := zA.below hb43
            replace zB := zB.below hb43
            replace hC := hC.trans (hb43.mono hC.size)
            clear hb43
            clear hH
            refine hK.out _ _ (cellsE6 b0 b3 b1) (fun hH => ?_)
            clear hK K
            (try simp only [List.getElem_toArray, List.getElem_cons_zero, List.getElem_cons_succ, Act.put, List.setIfInBounds_toArray, List.set_cons_zero, List.set_cons_succ])
            refine wpAnyH_take (i := 7) (v := ?_) rfl (by kernel_rfl) (by kernel_rfl) (by kernel_rfl) (fun _ _ _ h => h) (Or.inl ⟨by rfl, ?_⟩) (by assumption) ?_
            rotate_left
            · intro w' hSw
              (try dsimp only at hSw)
              obtain ⟨q0, q1, q2, q3, q4, q5⟩ := hSw
              go_simp
              try with_reducible rfl
            (try simp only [List.getElem_toArray, List.getElem_cons_zero, List.getElem_cons_succ, Act.put, List.setIfInBounds_toArray, List.set_cons_zero, List.set_cons_succ])
            refine wpAnyH_take (i := 8) (v := ?_) rfl (by kernel_rfl) (by kernel_rfl) (by kernel_rfl) (fun _ _ _ h => h) (Or.inl ⟨by rfl, ?_⟩) (by assumption) ?_
            rotate_left
            · intro w' hSw
              (try dsimp only at hSw)
              obtain ⟨q0, q1, q2, q3, q4, q5⟩ := hSw
              go_simp
              try with_reducible rfl
            (try simp only [List.getElem_toArray, List.getElem_cons_zero, List.getElem_cons_succ, Act.put, List.setIfInBounds_toArray, List.set_cons_zero, List.set_cons_succ])
            refine wpAnyH_take (i := 9) (v := ?_) rfl (by kernel_rfl) (by kernel_rfl) (by kernel_rfl) (fun _ _ _ h => h) (Or.inl ⟨by rfl, ?_⟩) (by assumption) ?_
            rotate_left
            · intro w' hSw
              (try dsimp only at hSw)
              obtain ⟨q0, q1, q2, q3, q4, q5⟩ := hSw
              go_simp
              try with_reducible rfl
            (try simp only [List.getElem_toArray, List.getElem_cons_zero, List.getElem_cons_succ, Act.put, List.setIfInBounds_toArray, List.set_cons_zero, List.set_cons_succ])
            refine wpAnyH_ready (rs := [10]) (by kernel_rfl) (by simp) ?_
            refine AllReadyH.cons rfl (fun K hK => ?_) ?_
            · skip
              go_simp
              have n10 := Blk.new x43 26 #[.bool false, .slice none 0 0]
              have hb44 : Below x43.heap.size x43 (x43.alloc (.cells #[.bool false, .slice none 0 0] 26)) := (Below.refl _ _).alloc (Nat.le_refl _) _
              obtain ⟨x44, hx44⟩ : ∃ x, x43.alloc (.cells #[.bool false, .slice none 0 0] 26) = x := ⟨_, rfl⟩
              obtain ⟨g10, hg10⟩ : ∃ g, x43.heap.size = g := ⟨_, rfl⟩
              have hs10 : wc.heap.size ≤ g10 := by rw [← hg10]; exact hC.size
              replace b0 := b0.below hb44 b0.lt
              replace b3 := b3.below hb44 b3.lt
              replace b1 := b1.below hb44 b1.lt
              replace zp := zp.below hb44
              replace zq := zq.below hb44
              replace zG := zG.below hb44
              replace zA := zA.below hb44
              replace zB := zB.below hb44
              replace zF := zF.below hb44
              replace hC := hC.trans (hb44.mono hC.size)
              clear hb44
              rw [hx44] at n10 hC b0 b3 b1 zp zq zG zA zB zF ⊢
              rw [hg10] at n10 ⊢
              clear hx44 hg10
              clear hH
              refine hK.out _ _ (cellsE6 b0 b3 b1) (fun hH => ?_)
              clear hK K
              (try simp only [List.getElem_toArray, List.getElem_cons_zero, List.getElem_cons_succ, Act.put, List.setIfInBounds_toArray, List.set_cons_zero, List.set_cons_succ])
              refine wpAnyH_ready (rs := [11]) (by kernel_rfl) (by simp) ?_
              refine AllReadyH.cons rfl (fun K hK => ?_) ?_
              · skip
                have p045 := (n10.cell 0).trans (b := some (Value.bool false)) rfl
                have p145 := (n10.cell 1).trans (b := some (Value.slice none 0 0)) rfl
                have p245 := n10.frozen 0
                have p345 := n10.frozen 1
                have p445 := n10.lt
                go_simp
                clear p045 p145 p245 p345 p445
                replace zp := whz_store2 zp n10 false FA nF cF
                replace zq := whz_store2 zq n10 false FA nF cF
                replace zG := whz_store2 zG n10 false FA nF cF
                replace zA := whz_store2 zA n10 false FA nF cF
                replace zB := whz_store2 zB n10 false FA nF cF
                replace zF := whz_store2 zF n10 false FA nF cF
                replace b0 := (b0.far (p := ⟨g10, 0, none⟩) (show w.heap.size ≠ g10 by omega) (.bool false)).far (p := ⟨g10, 1, none⟩) (show w.heap.size ≠ g10 by omega) (.slice FA nF cF)
                replace b3 := (b3.far (p := ⟨g10, 0, none⟩) (show u3.heap.size ≠ g10 by omega) (.bool false)).far (p := ⟨g10, 1, none⟩) (show u3.heap.size ≠ g10 by omega) (.slice FA nF cF)
                replace b1 := (b1.far (p := ⟨g10, 0, none⟩) (show (w.heap.size + 1) ≠ g10 by omega) (.bool false)).far (p := ⟨g10, 1, none⟩) (show (w.heap.size + 1) ≠ g10 by omega) (.slice FA nF cF)
                replace n10 := (n10.set_ 0 (.bool false)).set_ 1 (.slice FA nF cF)
                replace hC := (hC.setCell (p := ⟨g10, 0, none⟩) hs10 (.bool false)).setCell (p := ⟨g10, 1, none⟩) hs10 (.slice FA nF cF)
                obtain ⟨x45, hx45⟩ : ∃ x, (x44.setCell ⟨g10, 0, none⟩ (.bool false)).setCell ⟨g10, 1, none⟩ (.slice FA nF cF) = x := ⟨_, rfl⟩
                rw [hx45] at hC b0 b3 b1 n10 zp zq zG zA zB zF ⊢
                clear hx45
                clear hH
                refine hK.out _ _ (cellsE6 b0 b3 b1) (fun hH => ?_)
                clear hK K
                (try simp only [List.getElem_toArray, List.getElem_cons_zero, List.getElem_cons_succ, Act.put, List.setIfInBounds_toArray, List.set_cons_zero, List.set_cons_succ])
                refine wpAnyH_take (i := 12) (v := ?_) rfl (by kernel_rfl) (by kernel_rfl) (by kernel_rfl) (fun _ _ _ h => h) (Or.inl ⟨by rfl, ?_⟩) (by assumption) ?_
                rotate_left
                · intro w' hSw
                  (try dsimp only at hSw)
                  obtain ⟨q0, q1, q2, q3, q4, q5⟩ := hSw
                  go_simp
                  try with_reducible rfl
                (try simp only [List.getElem_toArray, List.getElem_cons_zero, List.getElem_cons_succ, Act.put, List.setIfInBounds_toArray, List.set_cons_zero, List.set_cons_succ])
                refine wpAnyH_done (by kernel_rfl) ?_ _
                clear hH
                go_wp2
                go_meet
                first | exact ⟨rfl, g10, _, _, _, rfl, hs10, n10, zF, hC⟩ | ((repeat apply Exists.intro); exact ⟨⟨rfl, g10, _, _, _, rfl, hs10, n10, zF, hC⟩, rfl⟩)
              exact AllReadyH.nil
            exact AllReadyH.nil
          refine AllReadyH.cons rfl (fun K hK => ?_) ?_
          · skip
            go_simp
            have n10 := Blk.new x42 26 #[.bool false, .slice none 0 0]
            have hb46 : Below x42.heap.size x42 (x42.alloc (.cells #[.bool false, .slice none 0 0] 26)) := (Below.refl _ _).alloc (Nat.le_refl _) _
            obtain ⟨x46, hx46⟩ : ∃ x, x42.alloc (.cells #[.bool false, .slice none 0 0] 26) = x := ⟨_, rfl⟩
            obtain ⟨g10, hg10⟩ : ∃ g, x42.heap.size = g := ⟨_, rfl⟩
            have hs10 : wc.heap.size ≤ g10 := by rw [← hg10]; exact hC.size
            replace b0 := b0.below hb46 b0.lt
            replace b3 := b3.below hb46 b3.lt
            replace b1 := b1.below hb46 b1.lt
            replace zp := zp.below hb46
            replace zq := zq.below hb46
            replace zG := zG.below hb46
            replace zA := zA.below hb46
            replace zB := zB.below hb46
            replace hC := hC.trans (hb46.mono hC.size)
            clear hb46
            rw [hx46] at n10 hC b0 b3 b1 zp zq zG zA zB ⊢
            rw [hg10] at n10 ⊢
            clear hx46 hg10
            clear hH
            refine hK.out _ _ (cellsE6 b0 b3 b1) (fun hH => ?_)
            clear hK K
            (try simp only [List.getElem_toArray, List.getElem_cons_zero, List.getElem_cons_succ, Act.put, List.setIfInBounds_toArray, List.set_cons_zero, List.set_cons_succ])
            refine wpAnyH_ready (rs := [6]) (by kernel_rfl) (by simp) ?_
            refine AllReadyH.cons rfl (fun K hK => ?_) ?_
            · skip
              go_simp
              refine (HG14.out _ _ _ zA zB).mono ?_
              rintro e x47 ⟨FA, nF, cF, rfl, zF, hb47⟩
              replace b0 := b0.below hb47 b0.lt
              replace b3 := b3.below hb47 b3.lt
              replace b1 := b1.below hb47 b1.lt
              replace n10 := n10.below hb47 n10.lt
              replace zp := zp.below hb47
              replace zq := zq.below hb47
              replace zG := zG.below hb47
              replace zA := zA.below hb47
              replace zB := zB.below hb47
              replace hC := hC.trans (hb47.mono hC.size)
              clear hb47
              clear hH
              refine hK.out _ _ (cellsE6 b0 b3 b1) (fun hH => ?_)
              clear hK K
              (try simp only [List.getElem_toArray, List.getElem_cons_zero, List.getElem_cons_succ, Act.put, List.setIfInBounds_toArray, List.set_cons_zero, List.set_cons_succ])
              refine wpAnyH_take (i := 7) (v := ?_) rfl (by kernel_rfl) (by kernel_rfl) (by kernel_rfl) (fun _ _ _ h => h) (Or.inl ⟨by rfl, ?_⟩) (by assumption) ?_
              rotate_left
              · intro w' hSw
                (try dsimp only at hSw)
                obtain ⟨q0, q1, q2, q3, q4, q5⟩ := hSw
                go_simp
                try with_reducible rfl
              (try simp only [List.getElem_toArray, List.getElem_cons_zero, List.getElem_cons_succ, Act.put, List.setIfInBounds_toArray, List.set_cons_zero, List.set_cons_succ])
              refine wpAnyH_take (i := 8) (v := ?_) rfl (by kernel_rfl) (by kernel_rfl) (by kernel_rfl) (fun _ _ _ h => h) (Or.inl ⟨by rfl, ?_⟩) (by assumption) ?_
              rotate_left
              · intro w' hSw
                (try dsimp only at hSw)
                obtain ⟨q0, q1, q2, q3, q4, q5⟩ := hSw
                go_simp
                try with_reducible rfl
              (try simp only [List.getElem_toArray, List.getElem_cons_zero, List.getElem_cons_succ, Act.put, List.setIfInBounds_toArray, List.set_cons_zero, List.set_cons_succ])
              refine wpAnyH_take (i := 9) (v := ?_) rfl (by kernel_rfl) (by kernel_rfl) (by kernel_rfl) (fun _ _ _ h => h) (Or.inl ⟨by rfl, ?_⟩) (by assumption) ?_
              rotate_left
              · intro w' hSw
                (try dsimp only at hSw)
                obtain ⟨q0, q1, q2, q3, q4, q5⟩ := hSw
                go_simp
                try with_reducible rfl
              (try simp only [List.getElem_toArray, List.getElem_cons_zero, List.getElem_cons_succ, Act.put, List.setIfInBounds_toArray, List.set_cons_zero, List.set_cons_succ])
              refine wpAnyH_ready (rs := [11]) (by kernel_rfl) (by simp) ?_
              refine AllReadyH.cons rfl (fun K hK => ?_) ?_
              · skip
                have p048 := (n10.cell 0).trans (b := some (Value.bool false)) rfl
                have p148 := (n10.cell 1).trans (b := some (Value.slice none 0 0)) rfl
                have p248 := n10.frozen 0
                have p348 := n10.frozen 1
                have p448 := n10.lt
                go_simp
                clear p048 p148 p248 p348 p448
                replace zp := whz_store2 zp n10 false FA nF cF
                replace zq := whz_store2 zq n10 false FA nF cF
                replace zG := whz_store2 zG n10 false FA nF cF
                replace zA := whz_store2 zA n10 false FA nF cF
                replace zB := whz_store2 zB n10 false FA nF cF
                replace zF := whz_store2 zF n10 false FA nF cF
                replace b0 := (b0.far (p := ⟨g10, 0, none⟩) (show w.heap.size ≠ g10 by omega) (.bool false)).far (p := ⟨g10, 1, none⟩) (show w.heap.size ≠ g10 by omega) (.slice FA nF cF)
                replace b3 := (b3.far (p := ⟨g10, 0, none⟩) (show u3.heap.size ≠ g10 by omega) (.bool false)).far (p := ⟨g10, 1, none⟩) (show u3.heap.size ≠ g10 by omega) (.slice FA nF cF)
                replace b1 := (b1.far (p := ⟨g10, 0, none⟩) (show (w.heap.size + 1) ≠ g10 by omega) (.bool false)).far (p := ⟨g10, 1, none⟩) (show (w.heap.size + 1) ≠ g10 by omega) (.slice FA nF cF)
                replace n10 := (n10.set_ 0 (.bool false)).set_ 1 (.slice FA nF cF)
                replace hC := (hC.setCell (p := ⟨g10, 0, none⟩) hs10 (.bool false)).setCell (p := ⟨g10, 1, none⟩) hs10 (.slice FA nF cF)
                obtain ⟨x48, hx48⟩ : ∃ x, (x47.setCell ⟨g10, 0, none⟩ (.bool false)).setCell ⟨g10, 1, none⟩ (.slice FA nF cF) = x := ⟨_, rfl⟩
                rw [hx48] at hC b0 b3 b1 n10 zp zq zG zA zB zF ⊢
                clear hx48
                clear hH
                refine hK.out _ _ (cellsE6 b0 b3 b1) (fun hH => ?_)
                clear hK K
                (try simp only [List.getElem_toArray, List.getElem_cons_zero, List.getElem_cons_succ, Act.put, List.setIfInBounds_toArray, List.set_cons_zero, List.set_cons_succ])
                refine wpAnyH_take (i := 12) (v := ?_) rfl (by kernel_rfl) (by kernel_rfl) (by kernel_rfl) (fun _ _ _ h => h) (Or.inl ⟨by rfl, ?_⟩) (by assumption) ?_
                rotate_left
                · intro w' hSw
                  (try dsimp only at hSw)
                  obtain ⟨q0, q1, q2, q3, q4, q5⟩ := hSw
                  go_simp
                  try with_reducible rfl
                (try simp only [List.getElem_toArray, List.getElem_cons_zero, List.getElem_cons_succ, Act.put, List.setIfInBounds_toArray, List.set_cons_zero, List.set_cons_succ])
                refine wpAnyH_done (by kernel_rfl) ?_ _
                clear hH
                go_wp2
                go_meet
                first | exact ⟨rfl, g10, _, _, _, rfl, hs10, n10, zF, hC⟩ | ((repeat apply Exists.intro); exact ⟨⟨rfl, g10, _, _, _, rfl, hs10, n10, zF, hC⟩, rfl⟩)
              exact AllReadyH.nil
            exact AllReadyH.nil
          exact AllReadyH.nil
        refine AllReadyH.cons rfl (fun K hK => ?_) ?_
        · skip
          go_simp
          have n10 := Blk.new x41 26 #[.bool false, .slice none 0 0]
          have hb49 : Below x41.heap.size x41 (x41.alloc (.cells #[.bool false, .slice none 0 0] 26)) := (Below.refl _ _).alloc (Nat.le_refl _) _
          obtain ⟨x49, hx49⟩ : ∃ x, x41.alloc (.cells #[.bool false, .slice none 0 0] 26) = x := ⟨_, rfl⟩
          obtain ⟨g10, hg10⟩ : ∃ g, x41.heap.size = g := ⟨_, rfl⟩
          have hs10 : wc.heap.size ≤ g10 := by rw [← hg10]; exact hC.size
          replace b0 := b0.below hb49 b0.lt
          replace b3 := b3.below hb49 b3.lt
          replace b1 := b1.below hb49 b1.lt
          replace zp := zp.below hb49
          replace zq := zq.below hb49
          replace zG := zG.below hb49
          replace zA := zA.below hb49
          replace hC := hC.trans (hb49.mono hC.size)
          clear hb49
          rw [hx49] at n10 hC b0 b3 b1 zp zq zG zA ⊢
          rw [hg10] at n10 ⊢
          clear hx49 hg10
          clear hH
          refine hK.out _ _ (cellsE6 b0 b3 b1) (fun hH => ?_)
          clear hK K
          (try simp only [List.getElem_toArray, List.getElem_cons_zero, List.getElem_cons_succ, Act.put, List.setIfInBounds_toArray, List.set_cons_zero, List.set_cons_succ])
          refine wpAnyH_ready (rs := [5]) (by kernel_rfl) (by simp) ?_
          refine AllReadyH.cons rfl (fun K hK => ?_) ?_
          · skip
            go_simp
            refine (divv zq zG kzq_.out kzG_.out HE.out.2.2 HE.out.2.1).mono ?_
            rintro e x50 ⟨vB, rfl, zB, hb50⟩
            replace b0 := b0.below hb50 b0.lt
            replace b3 := b3.below hb50 b3.lt
            replace b1 := b1.below hb50 b1.lt
            replace n10 := n10.below hb50 n10.lt
            replace zp := zp.below hb50
            replace zq := zq.below hb50
            replace zG := zG.below hb50
            replace zA := zA.below hb50
            replace hC := hC.trans (hb50.mono hC.size)
            clear hb50
            clear hH
            refine hK.out _ _ (cellsE6 b0 b3 b1) (fun hH => ?_)
            clear hK K
            (try simp only [List.getElem_toArray, List.getElem_cons_zero, List.getElem_cons_succ, Act.put, List.setIfInBounds_toArray, List.set_cons_zero, List.set_cons_succ])
            refine wpAnyH_ready (rs := [6]) (by kernel_rfl) (by simp) ?_
            refine AllReadyH.cons rfl (fun K hK => ?_) ?_
            · skip
              go_simp
              refine (HG14.out _ _ _ zA zB).mono ?_
              rintro e x51 ⟨FA, nF, cF, rfl, zF, hb51⟩
              replace b0 := b0.below hb51 b0.lt
              replace b3 := b3.below hb51 b3.lt
              replace b1 := b1.below hb51 b1.lt
              replace n10 := n10.below hb51 n10.lt
              replace zp := zp.below hb51
              replace zq := zq.below hb51
              replace zG := zG.below hb51
              replace zA := zA.below hb51
              replace zB := zB.below hb51
              replace hC := hC.trans (hb51.mono hC.size)
              clear hb51
              clear hH
              refine hK.out _ _ (cellsE6 b0 b3 b1) (fun hH => ?_)
              clear hK K
              (try simp only [List.getElem_toArray, List.getElem_cons_zero, List.getElem_cons_succ, Act.put, List.setIfInBounds_toArray, List.set_cons_zero, List.set_cons_succ])
              refine wpAnyH_take (i := 7) (v := ?_) rfl (by kernel_rfl) (by kernel_rfl) (by kernel_rfl) (fun _ _ _ h => h) (Or.inl ⟨by rfl, ?_⟩) (by assumption) ?_
              rotate_left
              · intro w' hSw
                (try dsimp only at hSw)
                obtain ⟨q0, q1, q2, q3, q4, q5⟩ := hSw
                go_simp
                try with_reducible rfl
              (try simp only [List.getElem_toArray, List.getElem_cons_zero, List.getElem_cons_succ, Act.put, List.setIfInBounds_toArray, List.set_cons_zero, List.set_cons_succ])
              refine wpAnyH_take (i := 8) (v := ?_) rfl (by kernel_rfl) (by kernel_rfl) (by kernel_rfl) (fun _ _ _ h => h) (Or.inl ⟨by rfl, ?_⟩) (by assumption) ?_
              rotate_left
              · intro w' hSw
                (try dsimp only at hSw)
                obtain ⟨q0, q1, q2, q3, q4, q5⟩ := hSw
                go_simp
                try with_reducible rfl
              (try simp only [List.getElem_toArray, List.getElem_cons_zero, List.getElem_cons_succ, Act.put, List.setIfInBounds_toArray, List.set_cons_zero, List.set_cons_succ])
              refine wpAnyH_take (i := 9) (v := ?_) rfl (by kernel_rfl) (by kernel_rfl) (by kernel_rfl) (fun _ _ _ h => h) (Or.inl ⟨by rfl, ?_⟩) (by assumption) ?_
              rotate_left
              · intro w' hSw
                (try dsimp only at hSw)
                obtain ⟨q0, q1, q2, q3, q4, q5⟩ := hSw
                go_simp
                try with_reducible rfl
              (try simp only [List.getElem_toArray, List.getElem_cons_zero, List.getElem_cons_succ, Act.put, List.setIfInBounds_toArray, List.set_cons_zero, List.set_cons_succ])
              refine wpAnyH_ready (rs := [11]) (by kernel_rfl) (by simp) ?_
              refine AllReadyH.cons rfl (fun K hK => ?_) ?_
              · skip
                have p052 := (n10.cell 0).trans (b := some (Value.bool false)) rfl
                have p152 := (n10.cell 1).trans (b := some (Value.slice none 0 0)) rfl
                have p252 := n10.frozen 0
                have p352 := n10.frozen 1
                have p452 := n10.lt
                go_simp
                clear p052 p152 p252 p352 p452
                replace zp := whz_store2 zp n10 false FA nF cF
                replace zq := whz_store2 zq n10 false FA nF cF
                replace zG := whz_store2 zG n10 false FA nF cF
                replace zA := whz_store2 zA n10 false FA nF cF
                replace zB := whz_store2 zB n10 false FA nF cF
                replace zF := whz_store2 zF n10 false FA nF cF
                replace b0 := (b0.far (p := ⟨g10, 0, none⟩) (show w.heap.size ≠ g10 by omega) (.bool false)).far (p := ⟨g10, 1, none⟩) (show w.heap.size ≠ g10 by omega) (.slice FA nF cF)
                replace b3 := (b3.far (p := ⟨g10, 0, none⟩) (show u3.heap.size ≠ g10 by omega) (.bool false)).far (p := ⟨g10, 1, none⟩) (show u3.heap.size ≠ g10 by omega) (.slice FA nF cF)
                replace b1 := (b1.far (p := ⟨g10, 0, none⟩) (show (w.heap.size + 1) ≠ g10 by omega) (.bool false)).far (p := ⟨g10, 1, none⟩) (show (w.heap.size + 1) ≠ g10 by omega) (.slice FA nF cF)
                replace n10 := (n10.set_ 0 (.bool false)).set_ 1 (.slice FA nF cF)
                replace hC := (hC.setCell (p := ⟨g10, 0, none⟩) hs10 (.bool false)).setCell (p := ⟨g10, 1, none⟩) hs10 (.slice FA nF cF)
                obtain ⟨x52, hx52⟩ : ∃ x, (x51.setCell ⟨g10, 0, none⟩ (.bool false)).setCell ⟨g10, 1, none⟩ (.slice FA nF cF) = x := ⟨_, rfl⟩
                rw [hx52] at hC b0 b3 b1 n10 zp zq zG zA zB zF ⊢
                clear hx52
                clear hH
                refine hK.out _ _ (cellsE6 b0 b3 b1) (fun hH => ?_)
                clear hK K
                (try simp only [List.getElem_toArray, List.getElem_cons_zero, List.getElem_cons_succ, Act.put, List.setIfInBounds_toArray, List.set_cons_zero, List.set_cons_succ])
                refine wpAnyH_take (i := 12) (v := ?_) rfl (by kernel_rfl) (by kernel_rfl) (by kernel_rfl) (fun _ _ _ h => h) (Or.inl ⟨by rfl, ?_⟩) (by assumption) ?_
                rotate_left
                · intro w' hSw
                  (try dsimp only at hSw)
                  obtain ⟨q0, q1, q2, q3, q4, q5⟩ := hSw
                  go_simp
                  try with_reducible rfl
                (try simp only [List.getElem_toArray, List.getElem_cons_zero, List.getElem_cons_succ, Act.put, List.setIfInBounds_toArray, List.set_cons_zero, List.set_cons_succ])
                refine wpAnyH_done (by kernel_rfl) ?_ _
                clear hH
                go_wp2
                go_meet
                first | exact ⟨rfl, g10, _, _, _, rfl, hs10, n10, zF, hC⟩ | ((repeat apply Exists.intro); exact ⟨⟨rfl, g10, _, _, _, rfl, hs10, n10, zF, hC⟩, rfl⟩)
              exact AllReadyH.nil
            exact AllReadyH.nil
          exact AllReadyH.nil
        exact AllReadyH.nil
      refine AllReadyH.cons rfl (fun K hK => ?_) ?_
      · skip
        go_simp
        have n10 := Blk.new x0 26 #[.bool false, .slice none 0 0]
        have hb53 : Below x0.heap.size x0 (x0.alloc (.cells #[.bool false, .slice none 0 0] 26)) := (Below.refl _ _).alloc (Nat.le_refl _) _
        obtain ⟨x53, hx53⟩ : ∃ x, x0.alloc (.cells #[.bool false, .slice none 0 0] 26) = x := ⟨_, rfl⟩
        obtain ⟨g10, hg10⟩ : ∃ g, x0.heap.size = g := ⟨_, rfl⟩
        have hs10 : wc.heap.size ≤ g10 := by rw [← hg10]; exact hC.size
        replace b0 := b0.below hb53 b0.lt
        replace b3 := b3.below hb53 b3.lt
        replace b1 := b1.below hb53 b1.lt
        replace zp := zp.below hb53
        replace zq := zq.below hb53
        replace zG := zG.below hb53
        replace hC := hC.trans (hb53.mono hC.size)
        clear hb53
        rw [hx53] at n10 hC b0 b3 b1 zp zq zG ⊢
        rw [hg10] at n10 ⊢
        clear hx53 hg10
        clear hH
        refine hK.out _ _ (cellsE6 b0 b3 b1) (fun hH => ?_)
        clear hK K
        (try simp only [List.getElem_toArray, List.getElem_cons_zero, List.getElem_cons_succ, Act.put, List.setIfInBounds_toArray, List.set_cons_zero, List.set_cons_succ])
        refine wpAnyH_ready (rs := [2]) (by kernel_rfl) (by simp) ?_
        refine AllReadyH.cons rfl (fun K hK => ?_) ?_
        · skip
          go_simp
          refine (divv zp zG kzp_.out kzG_.out HE.out.2.2 HE.out.1).mono ?_
          rintro e x54 ⟨vA, rfl, zA, hb54⟩
          replace b0 := b0.below hb54 b0.lt
          replace b3 := b3.below hb54 b3.lt
          replace b1 := b1.below hb54 b1.lt
          replace n10 := n10.below hb54 n10.lt
          replace zp := zp.below hb54
          replace zq := zq.below hb54
          replace zG := zG.below hb54
          replace hC := hC.trans (hb54.mono hC.size)
          clear hb54
          clear hH
          refine hK.out _ _ (cellsE6 b0 b3 b1) (fun hH => ?_)
          clear hK K
          (try simp only [List.getElem_toArray, List.getElem_cons_zero, List.getElem_cons_succ, Act.put, List.setIfInBounds_toArray, List.set_cons_zero, List.set_cons_succ])
          refine wpAnyH_ready (rs := [5]) (by kernel_rfl) (by simp) ?_
          refine AllReadyH.cons rfl (fun K hK => ?_) ?_
          · skip
            go_simp
            refine (divv zq zG kzq_.out kzG_.out HE.out.2.2 HE.out.2.1).mono ?_
            rintro e x55 ⟨vB, rfl, zB, hb55⟩
            replace b0 := b0.below hb55 b0.lt
            replace b3 := b3.below hb55 b3.lt
            replace b1 := b1.below hb55 b1.lt
            replace n10 := n10.below hb55 n10.lt
            replace zp := zp.below hb55
            replace zq := zq.below hb55
            replace zG := zG.below hb55
            replace zA := zA.below hb55
            replace hC := hC.trans (hb55.mono hC.size)
            clear hb55
            clear hH
            refine hK.out _ _ (cellsE6 b0 b3 b1) (fun hH => ?_)
            clear hK K
            (try simp only [List.getElem_toArray, List.getElem_cons_zero, List.getElem_cons_succ, Act.put, List.setIfInBounds_toArray, List.set_cons_zero, List.set_cons_succ])
            refine wpAnyH_ready (rs := [6]) (by kernel_rfl) (by simp) ?_
            refine AllReadyH.cons rfl (fun K hK => ?_) ?_
            · skip
              go_simp
              refine (HG14.out _ _ _ zA zB).mono ?_
              rintro e x56 ⟨FA, nF, cF, rfl, zF, hb56⟩
              replace b0 := b0.below hb56 b0.lt
              replace b3 := b3.below hb56 b3.lt
              replace b1 := b1.below hb56 b1.lt
              replace n10 := n10.below hb56 n10.lt
              replace zp := zp.below hb56
              replace zq := zq.below hb56
              replace zG := zG.below hb56
              replace zA := zA.below hb56
              replace zB := zB.below hb56
              replace hC := hC.trans (hb56.mono hC.size)
              clear hb56
              clear hH
              refine hK.out _ _ (cellsE6 b0 b3 b1) (fun hH => ?_)
              clear hK K
              (try simp only [List.getElem_toArray, List.getElem_cons_zero, List.getElem_cons_succ, Act.put, List.setIfInBounds_toArray, List.set_cons_zero, List.set_cons_succ])
              refine wpAnyH_take (i := 7) (v := ?_) rfl (by kernel_rfl) (by kernel_rfl) (by kernel_rfl) (fun _ _ _ h => h) (Or.inl ⟨by rfl, ?_⟩) (by assumption) ?_
              rotate_left
              · intro w' hSw
                (try dsimp only at hSw)
                obtain ⟨q0, q1, q2, q3, q4, q5⟩ := hSw
                go_simp
                try with_reducible rfl
              (try simp only [List.getElem_toArray, List.getElem_cons_zero, List.getElem_cons_succ, Act.put, List.setIfInBounds_toArray, List.set_cons_zero, List.set_cons_succ])
              refine wpAnyH_take (i := 8) (v := ?_) rfl (by kernel_rfl) (by kernel_rfl) (by kernel_rfl) (fun _ _ _ h => h) (Or.inl ⟨by rfl, ?_⟩) (by assumption) ?_
              rotate_left
              · intro w' hSw
                (try dsimp only at hSw)
                obtain ⟨q0, q1, q2, q3, q4, q5⟩ := hSw
                go_simp
                try with_reducible rfl
              (try simp only [List.getElem_toArray, List.getElem_cons_zero, List.getElem_cons_succ, Act.put, List.setIfInBounds_toArray, List.set_cons_zero, List.set_cons_succ])
              refine wpAnyH_take (i := 9) (v := ?_) rfl (by kernel_rfl) (by kernel_rfl) (by kernel_rfl) (fun _ _ _ h => h) (Or.inl ⟨by rfl, ?_⟩) (by assumption) ?_
              rotate_left
              · intro w' hSw
                (try dsimp only at hSw)
                obtain ⟨q0, q1, q2, q3, q4, q5⟩ := hSw
                go_simp
                try with_reducible rfl
              (try simp only [List.getElem_toArray, List.getElem_cons_zero, List.getElem_cons_succ, Act.put, List.setIfInBounds_toArray, List.set_cons_zero, List.set_cons_succ])
              refine wpAnyH_ready (rs := [11]) (by kernel_rfl) (by simp) ?_
              refine AllReadyH.cons rfl (fun K hK => ?_) ?_
              · skip
                have p057 := (n10.cell 0).trans (b := some (Value.bool false)) rfl
                have p157 := (n10.cell 1).trans (b := some (Value.slice none 0 0)) rfl
                have p257 := n10.frozen 0
                have p357 := n10.frozen 1
                have p457 := n10.lt
                go_simp
                clear p057 p157 p257 p357 p457
                replace zp := whz_store2 zp n10 false FA nF cF
                replace zq := whz_store2 zq n10 false FA nF cF
                replace zG := whz_store2 zG n10 false FA nF cF
                replace zA := whz_store2 zA n10 false FA nF cF
                replace zB := whz_store2 zB n10 false FA nF cF
                replace zF := whz_store2 zF n10 false FA nF cF
                replace b0 := (b0.far (p := ⟨g10, 0, none⟩) (show w.heap.size ≠ g10 by omega) (.bool false)).far (p := ⟨g10, 1, none⟩) (show w.heap.size ≠ g10 by omega) (.slice FA nF cF)
                replace b3 := (b3.far (p := ⟨g10, 0, none⟩) (show u3.heap.size ≠ g10 by omega) (.bool false)).far (p := ⟨g10, 1, none⟩) (show u3.heap.size ≠ g10 by omega) (.slice FA nF cF)
                replace b1 := (b1.far (p := ⟨g10, 0, none⟩) (show (w.heap.size + 1) ≠ g10 by omega) (.bool false)).far (p := ⟨g10, 1, none⟩) (show (w.heap.size + 1) ≠ g10 by omega) (.slice FA nF cF)
                replace n10 := (n10.set_ 0 (.bool false)).set_ 1 (.slice FA nF cF)
                replace hC := (hC.setCell (p := ⟨g10, 0, none⟩) hs10 (.bool false)).setCell (p := ⟨g10, 1, none⟩) hs10 (.slice FA nF cF)
                obtain ⟨x57, hx57⟩ : ∃ x, (x56.setCell ⟨g10, 0, none⟩ (.bool false)).setCell ⟨g10, 1, none⟩ (.slice FA nF cF) = x := ⟨_, rfl⟩
                rw [hx57] at hC b0 b3 b1 n10 zp zq zG zA zB zF ⊢
                clear hx57
                clear hH
                refine hK.out _ _ (cellsE6 b0 b3 b1) (fun hH => ?_)
                clear hK K
                (try simp only [List.getElem_toArray, List.getElem_cons_zero, List.getElem_cons_succ, Act.put, List.setIfInBounds_toArray, List.set_cons_zero, List.set_cons_succ])
                refine wpAnyH_take (i := 12) (v := ?_) rfl (by kernel_rfl) (by kernel_rfl) (by kernel_rfl) (fun _ _ _ h => h) (Or.inl ⟨by rfl, ?_⟩) (by assumption) ?_
                rotate_left
                · intro w' hSw
                  (try dsimp only at hSw)
                  obtain ⟨q0, q1, q2, q3, q4, q5⟩ := hSw
                  go_simp
                  try with_reducible rfl
                (try simp only [List.getElem_toArray, List.getElem_cons_zero, List.getElem_cons_succ, Act.put, List.setIfInBounds_toArray, List.set_cons_zero, List.set_cons_succ])
                refine wpAnyH_done (by kernel_rfl) ?_ _
                clear hH
                go_wp2
                go_meet
                first | exact ⟨rfl, g10, _, _, _, rfl, hs10, n10, zF, hC⟩ | ((repeat apply Exists.intro); exact ⟨⟨rfl, g10, _, _, _, rfl, hs10, n10, zF, hC⟩, rfl⟩)
              exact AllReadyH.nil
            exact AllReadyH.nil
          exact AllReadyH.nil
        exact AllReadyH.nil
      exact AllReadyH.nil
    case rest =>
    obtain ⟨rfl, g4, SA, nS, cS, rfl, hgg4, b4, zS, hcc14⟩ := hcut
    have ch10 := ch9.trans (hcc14.mono ch9.size)
    replace b0 := b0.below hcc14 b0.lt
    replace b3 := b3.below hcc14 b3.lt
    replace b1 := b1.below hcc14 b1.lt
    replace zp := zp.below hcc14
    replace zq := zq.below hcc14
    replace zG := zG.below hcc14
    clear HUP14
    have k1_ : Hid (Lz 1024 1) := (lz_one (by decide)).mono (by omega)
    clear zp zq zG
    clear b0 b1 b3
    have c0b4 := (b4.cell 0).trans (b := some (Value.bool false)) rfl
    have c1b4 := (b4.cell 1).trans (b := some (Value.slice SA nS cS)) rfl
    go_upto_region 15 with fail
    clear c0b4 c1b4
    replace b4 := b4.drew
    replace zS := whz_drew zS
    have ch_58_0 := ch10.drew
    clear ch10
    have kk_58_0 := cellsE2 b4
    refine wp_region_held_drew (S := fun w' => w'.cell? ⟨g4, 0, none⟩ = some (.bool false) ∧ w'.cell? ⟨g4, 1, none⟩ = some (.slice SA nS cS)) (by kernel_rfl) kk_58_0 (fun hH => ?_)
    clear kk_58_0
    refine wpAnyH_take (i := 0) (v := ?_) rfl (by kernel_rfl) (by kernel_rfl) (by kernel_rfl) (fun _ _ _ h => h) (Or.inl ⟨by rfl, ?_⟩) (by assumption) ?_
    rotate_left
    · intro w' hSw
      (try dsimp only at hSw)
      obtain ⟨q0, q1⟩ := hSw
      go_simp
      try with_reducible rfl
    (try simp only [List.getElem_toArray, List.getElem_cons_zero, List.getElem_cons_succ, Act.put, List.setIfInBounds_toArray, List.set_cons_zero, List.set_cons_succ])
    refine wpAnyH_take (i := 1) (v := ?_) rfl (by kernel_rfl) (by kernel_rfl) (by kernel_rfl) (fun _ _ _ h => h) (Or.inl ⟨by rfl, ?_⟩) (by assumption) ?_
    rotate_left
    · intro w' hSw
      (try dsimp only at hSw)
      obtain ⟨q0, q1⟩ := hSw
      go_simp
      try with_reducible rfl
    (try simp only [List.getElem_toArray, List.getElem_cons_zero, List.getElem_cons_succ, Act.put, List.setIfInBounds_toArray, List.set_cons_zero, List.set_cons_succ])
    refine wpAnyH_take (i := 2) (v := ?_) rfl (by kernel_rfl) (by kernel_rfl) (by kernel_rfl) (fun _ _ _ h => h) (Or.inl ⟨by rfl, ?_⟩) (by assumption) ?_
    rotate_left
    · intro w' hSw
      (try dsimp only at hSw)
      obtain ⟨q0, q1⟩ := hSw
      go_simp
      try with_reducible rfl
    (try simp only [List.getElem_toArray, List.getElem_cons_zero, List.getElem_cons_succ, Act.put, List.setIfInBounds_toArray, List.set_cons_zero, List.set_cons_succ])
    refine wpAnyH_take (i := 3) (v := ?_) rfl (by kernel_rfl) (by kernel_rfl) (by kernel_rfl) (fun _ _ _ h => h) (Or.inl ⟨by rfl, ?_⟩) (by assumption) ?_
    rotate_left
    · intro w' hSw
      (try dsimp only at hSw)
      obtain ⟨q0, q1⟩ := hSw
      go_simp
      try with_reducible rfl
    (try simp only [List.getElem_toArray, List.getElem_cons_zero, List.getElem_cons_succ, Act.put, List.setIfInBounds_toArray, List.set_cons_zero, List.set_cons_succ])
    refine wpAnyH_ready (rs := [4]) (by kernel_rfl) (by simp) ?_
    refine AllReadyH.cons rfl (fun K hK => ?_) AllReadyH.nil
    go_simp
    refine (num_wh 1 _ (by omega) (by omega)).mono ?_
    rintro e w_58_1 ⟨vzN, rfl, zN, hb_58_1⟩
    replace b4 := b4.below hb_58_1 b4.lt
    replace zS := zS.below hb_58_1
    have ch_58_1 := ch_58_0.trans (hb_58_1.mono ch_58_0.size)
    refine hK.out _ _ (cellsE2 b4) (fun hH1 => ?_)
    clear hK K ch_58_0 hb_58_1 hH
    have hH := hH1
    clear hH1
    (try simp only [List.getElem_toArray, List.getElem_cons_zero, List.getElem_cons_succ, Act.put, List.setIfInBounds_toArray, List.set_cons_zero, List.set_cons_succ])
    refine wpAnyH_ready (rs := [5]) (by kernel_rfl) (by simp) ?_
    refine AllReadyH.cons rfl (fun K hK => ?_) AllReadyH.nil
    go_simp
    refine (equal_l zS zN k1_.out k1_.out rfl).mono ?_
    rintro e w_58_2 ⟨rfl, hb_58_2⟩
    replace b4 := b4.below hb_58_2 b4.lt
    replace zS := zS.below hb_58_2
    clear zN
    have ch_58_2 := ch_58_1.trans (hb_58_2.mono ch_58_1.size)
    refine hK.out _ _ (cellsE2 b4) (fun hH2 => ?_)
    clear hK K ch_58_1 hb_58_2 hH
    have hH := hH2
    clear hH2
    (try simp only [List.getElem_toArray, List.getElem_cons_zero, List.getElem_cons_succ, Act.put, List.setIfInBounds_toArray, List.set_cons_zero, List.set_cons_succ])
    refine wpAnyH_take (i := 6) (v := ?_) rfl (by kernel_rfl) (by kernel_rfl) (by kernel_rfl) (fun _ _ _ h => h) (Or.inl ⟨by rfl, ?_⟩) (by assumption) ?_
    rotate_left
    · intro w' hSw
      (try dsimp only at hSw)
      obtain ⟨q0, q1⟩ := hSw
      go_simp
      try with_reducible rfl
    (try simp only [List.getElem_toArray, List.getElem_cons_zero, List.getElem_cons_succ, Act.put, List.setIfInBounds_toArray, List.set_cons_zero, List.set_cons_succ])
    refine wpAnyH_take (i := 7) (v := ?_) rfl (by kernel_rfl) (by kernel_rfl) (by kernel_rfl) (fun _ _ _ h => h) (Or.inl ⟨by rfl, ?_⟩) (by assumption) ?_
    rotate_left
    · intro w' hSw
      (try dsimp only at hSw)
      obtain ⟨q0, q1⟩ := hSw
      go_simp
      try with_reducible rfl
    (try simp only [List.getElem_toArray, List.getElem_cons_zero, List.getElem_cons_succ, Act.put, List.setIfInBounds_toArray, List.set_cons_zero, List.set_cons_succ])
    refine wpAnyH_done (by kernel_rfl) ?_ _
    clear hH
    have ch11 := ch_58_2
    clear ch_58_2
    go_wp2
    go_ret
    exact ⟨rfl, ch11⟩

theorem gcds_any {w : World} {va vb vc : Value} {x y z : Bool} {la lb lc : List Nat} (ha : Wh w va x la) (hb : Wh w vb y lb) (hc : Wh w vc z lc) :
    Calls Try.prog 8 #[va, vb, vc] w fun e w' => e = .returned (.bool true) ∧ Below w.heap.size w w' := by
  obtain ⟨A, ca, rfl, sa⟩ := ha
  obtain ⟨B, cb, rfl, sb⟩ := hb
  obtain ⟨C, cc, rfl, sc⟩ := hc
  cases hu : (uB 40 x la && uB 40 y lb && uB 40 z lc) with
  | false => exact gcd_not sa rfl sb rfl sc rfl hu
  | true =>
    simp only [Bool.and_eq_true] at hu
    exact gcd_ok sa rfl sb rfl sc rfl hu.1.1 hu.1.2 hu.2
end Go.Proofs.Ytgnidjhfiagfnaa
