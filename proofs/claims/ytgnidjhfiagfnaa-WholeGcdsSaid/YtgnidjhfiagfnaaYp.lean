/- Greatest common divisors of absolute values and of whole numbers, of any length: Lehmer's steps, the leading bits, the loop, exact quotients. Conditions: the limbs are in memory, normal, and at most 4000. -/
import Derived.Test.YtgnidjhfiagfnaaNums
import Derived.Test.YtgnidjhfiagfnaaWe
import Derived.Deep.LoopGhost
import Derived.Test.YtgnidjhfiagfnaaWw
import Derived.Test.YtgnidjhfiagfnaaShelf
import Derived.Lib.ItoaNum
import Derived.Test.YtgnidjhfiagfnaaYj
import Derived.Test.YtgnidjhfiagfnaaWx
import Derived.Deep.RegionHeld3
import Derived.Test.YtgnidjhfiagfnaaXn
import Derived.Test.YtgnidjhfiagfnaaYk
namespace Go.Proofs.Ytgnidjhfiagfnaa

/-- What holds of the factors a, b, c, d, and of the leading bits x, y that they lead to. -/
def Lh (x0 y0 x y a b c d : Int) : Prop :=
  x = a * x0 + b * y0 ∧ y = c * x0 + d * y0 ∧ 1 ≤ x ∧ 0 ≤ x + a ∧ 0 ≤ x + b ∧ 0 ≤ y + c ∧ 0 ≤ y + d ∧ x ≤ x0 ∧ y ≤ x0 ∧
  ((0 ≤ a ∧ b ≤ 0 ∧ c ≤ 0 ∧ 0 ≤ d ∧ x0 = d * x - b * y ∧ y0 = a * y - c * x) ∨ (a ≤ 0 ∧ 0 ≤ b ∧ 0 ≤ c ∧ d ≤ 0 ∧ x0 = b * y - d * x ∧ y0 = c * x - a * y)) ∧
  (-x0 ≤ a ∧ a ≤ x0) ∧ (-x0 ≤ b ∧ b ≤ x0) ∧ (-x0 ≤ c ∧ c ≤ x0) ∧ (-x0 ≤ d ∧ d ≤ x0)

/-- What the factors do to all longer numbers that begin with these bits. -/
def Lb (x0 y0 a b c d : Int) : Prop :=
  ∀ T A B : Int, x0 * T ≤ A → A < x0 * T + T → y0 * T ≤ B → B < y0 * T + T → 0 ≤ B → B ≤ A →
    a * A + b * B ≤ A ∧ Int.gcd (a * A + b * B) (c * A + d * B) = Int.gcd A B ∧
    ((a = 1 ∧ b = 0 ∧ c = 0 ∧ d = 1) ∨ (0 ≤ c * A + d * B ∧ c * A + d * B < a * A + b * B ∧ c * A + d * B < B))

theorem lh_start {x0 y0 : Int} (h1 : 1 ≤ x0) (h2 : 0 ≤ y0) (h3 : y0 ≤ x0) : Lh x0 y0 x0 y0 1 0 0 1 ∧ Lb x0 y0 1 0 0 1 := by
  refine ⟨⟨by omega, by omega, h1, by omega, by omega, by omega, by omega, by omega, h3, Or.inl ⟨by omega, by omega, by omega, by omega, by omega, by omega⟩, by omega, by omega, by omega, by omega⟩, ?_⟩
  intro T A B _ _ _ _ _ _
  refine ⟨by omega, ?_, Or.inl ⟨rfl, rfl, rfl, rfl⟩⟩
  rw [show (1 : Int) * A + 0 * B = A by omega, show (0 : Int) * A + 1 * B = B by omega]

theorem gcd_turn (A B q : Int) : Int.gcd B (A - q * B) = Int.gcd A B := by
  rw [Int.gcd_comm A B, Int.sub_eq_add_neg, ← Int.neg_mul]
  exact Int.gcd_add_mul_right_right ..

theorem lh_step {x0 y0 x y a b c d q : Int} (h3 : y0 ≤ x0) (H : Lh x0 y0 x y a b c d) (hb : Lb x0 y0 a b c d) (hc : y + c ≠ 0) (hd : y + d ≠ 0)
    (hq : q = (x + a) / (y + c)) (hq' : q = (x + b) / (y + d)) :
    Lh x0 y0 y (x - q * y) c d (a - q * c) (b - q * d) ∧ Lb x0 y0 c d (a - q * c) (b - q * d) ∧ 0 ≤ q ∧ 0 ≤ x - q * y ∧ x - q * y + (a - q * c) < y + c := by
  obtain ⟨e1, e2, hx, g1, g2, g3, g4, k1, k2, hs, b1, b2, b3, b4⟩ := H
  have q0 : 0 ≤ q := hq ▸ Int.ediv_nonneg g1 g3
  have m1 := Int.emod_add_mul_ediv (x + a) (y + c)
  have m2 := Int.emod_add_mul_ediv (x + b) (y + d)
  have m3 := Int.emod_nonneg (x + a) hc
  have m4 := Int.emod_nonneg (x + b) hd
  have m5 := Int.emod_lt_of_pos (x + a) (show 0 < y + c by omega)
  have m6 := Int.emod_lt_of_pos (x + b) (show 0 < y + d by omega)
  rw [← hq] at m1
  rw [← hq'] at m2
  clear hq hq'
  have n1 : (x - q * y) + (a - q * c) = (x + a) % (y + c) := by grind
  have n2 : (x - q * y) + (b - q * d) = (x + b) % (y + d) := by grind
  have f1 : 0 ≤ (x - q * y) + (a - q * c) := by omega
  have f2 : 0 ≤ (x - q * y) + (b - q * d) := by omega
  have f3 : (x - q * y) + (a - q * c) < y + c := by omega
  have f4 : (x - q * y) + (b - q * d) < y + d := by omega
  have f5 : 1 ≤ y := by rcases hs with ⟨s1, s2, s3, s4, -, -⟩ | ⟨s1, s2, s3, s4, -, -⟩ <;> omega
  clear m1 m2 m3 m4 m5 m6 n1 n2
  have hs' : (c ≤ 0 ∧ 0 ≤ d ∧ 0 ≤ a - q * c ∧ b - q * d ≤ 0) ∨ (0 ≤ c ∧ d ≤ 0 ∧ a - q * c ≤ 0 ∧ 0 ≤ b - q * d) := by
    rcases hs with ⟨s1, s2, s3, s4, -, -⟩ | ⟨s1, s2, s3, s4, -, -⟩
    · have t1 : q * c ≤ 0 := Int.mul_nonpos_of_nonneg_of_nonpos q0 s3
      have t2 : 0 ≤ q * d := Int.mul_nonneg q0 s4
      exact Or.inl ⟨s3, s4, by omega, by omega⟩
    · have t1 : 0 ≤ q * c := Int.mul_nonneg q0 s3
      have t2 : q * d ≤ 0 := Int.mul_nonpos_of_nonneg_of_nonpos q0 s4
      exact Or.inr ⟨s3, s4, by omega, by omega⟩
  have y1 : 0 ≤ x - q * y := by rcases hs' with ⟨s1, s2, s3, s4⟩ | ⟨s1, s2, s3, s4⟩ <;> omega
  have yle : x - q * y ≤ x := by
    have : 0 ≤ q * y := Int.mul_nonneg q0 (by omega)
    omega
  have e3 : x - q * y = (a - q * c) * x0 + (b - q * d) * y0 := by grind
  have hs2 : (0 ≤ c ∧ d ≤ 0 ∧ a - q * c ≤ 0 ∧ 0 ≤ b - q * d ∧ x0 = (b - q * d) * y - d * (x - q * y) ∧ y0 = c * (x - q * y) - (a - q * c) * y) ∨
      (c ≤ 0 ∧ 0 ≤ d ∧ 0 ≤ a - q * c ∧ b - q * d ≤ 0 ∧ x0 = d * (x - q * y) - (b - q * d) * y ∧ y0 = (a - q * c) * y - c * (x - q * y)) := by
    rcases hs with ⟨s1, s2, s3, s4, s5, s6⟩ | ⟨s1, s2, s3, s4, s5, s6⟩
    · have t1 : q * c ≤ 0 := Int.mul_nonpos_of_nonneg_of_nonpos q0 s3
      have t2 : 0 ≤ q * d := Int.mul_nonneg q0 s4
      exact Or.inr ⟨s3, s4, by omega, by omega, by grind, by grind⟩
    · have t1 : 0 ≤ q * c := Int.mul_nonneg q0 s3
      have t2 : q * d ≤ 0 := Int.mul_nonpos_of_nonneg_of_nonpos q0 s4
      exact Or.inl ⟨s3, s4, by omega, by omega, by grind, by grind⟩
  have hd2 : ∀ T A B : Int, c * A + d * B = T * y + c * (A - x0 * T) + d * (B - y0 * T) := by intro T A B; grind
  have hd3 : ∀ T A B : Int, (a - q * c) * A + (b - q * d) * B = T * (x - q * y) + (a - q * c) * (A - x0 * T) + (b - q * d) * (B - y0 * T) := by intro T A B; grind
  have hd4 : ∀ A B : Int, (a - q * c) * A + (b - q * d) * B = (a * A + b * B) - q * (c * A + d * B) := by intro A B; grind
  clear hs hs' e1 e2
  generalize a - q * c = c2 at *
  generalize b - q * d = d2 at *
  generalize x - q * y = y2 at *
  refine ⟨⟨?_, e3, f5, by omega, by omega, f1, f2, by omega, by omega, ?_, b3, b4, ?_, ?_⟩, ?_, q0, y1, f3⟩
  · have := hd2 1 x0 y0
    omega
  · exact hs2
  · rcases hs2 with ⟨s1, s2, s3, s4, s5, s6⟩ | ⟨s1, s2, s3, s4, s5, s6⟩
    · have t1 : c2 * y ≤ c2 * 1 := Int.mul_le_mul_of_nonpos_left s3 f5
      have t2 : 0 ≤ c * y2 := Int.mul_nonneg s1 y1
      omega
    · have t1 : c2 * 1 ≤ c2 * y := Int.mul_le_mul_of_nonneg_left f5 s3
      have t2 : c * y2 ≤ 0 := Int.mul_nonpos_of_nonpos_of_nonneg s1 y1
      omega
  · rcases hs2 with ⟨s1, s2, s3, s4, s5, s6⟩ | ⟨s1, s2, s3, s4, s5, s6⟩
    · have t1 : d2 * 1 ≤ d2 * y := Int.mul_le_mul_of_nonneg_left f5 s4
      have t2 : d * y2 ≤ 0 := Int.mul_nonpos_of_nonpos_of_nonneg s2 y1
      omega
    · have t1 : d2 * y ≤ d2 * 1 := Int.mul_le_mul_of_nonpos_left s4 f5
      have t2 : 0 ≤ d * y2 := Int.mul_nonneg s2 y1
      omega
  · intro T A B i1 i2 i3 i4 i5 i6
    have p1 : c * A + d * B ≤ B := by
      rcases (hb T A B i1 i2 i3 i4 i5 i6).2.2 with ⟨rfl, rfl, rfl, rfl⟩ | ⟨-, -, h⟩ <;> omega
    have p2 : 0 < T := by omega
    have p3 := (hb T A B i1 i2 i3 i4 i5 i6).2.1
    have u1 := hd2 T A B
    have u2 := hd3 T A B
    have v1 : 0 ≤ A - x0 * T ∧ A - x0 * T ≤ T := by omega
    have v2 : 0 ≤ B - y0 * T ∧ B - y0 * T ≤ T := by omega
    have z1 : T * (y2 + d2) = T * y2 + T * d2 := Int.mul_add ..
    have z2 : T * (y2 + c2) = T * y2 + T * c2 := Int.mul_add ..
    have z3 : T * (y + d) = T * y + T * d := Int.mul_add ..
    have z4 : T * (y + c) = T * y + T * c := Int.mul_add ..
    have z5 : 0 ≤ T * (y2 + d2) := Int.mul_nonneg (by omega) f2
    have z6 : 0 ≤ T * (y2 + c2) := Int.mul_nonneg (by omega) f1
    have z7 : T * (y2 + d2) < T * (y + d) := Int.mul_lt_mul_of_pos_left f4 p2
    have z8 : T * (y2 + c2) < T * (y + c) := Int.mul_lt_mul_of_pos_left f3 p2
    refine ⟨by omega, ?_, Or.inr ?_⟩
    · rw [hd4, gcd_turn, p3]
    · generalize A - x0 * T = α at *
      generalize B - y0 * T = β at *
      rw [u1] at p1
      rw [u1, u2]
      clear u1 u2
      have key : 0 ≤ T * y2 + c2 * α + d2 * β ∧ T * y2 + c2 * α + d2 * β < T * y + c * α + d * β := by
        rcases hs2 with ⟨s1, s2, s3, s4, s5, s6⟩ | ⟨s1, s2, s3, s4, s5, s6⟩
        · have t1 : c2 * T ≤ c2 * α := Int.mul_le_mul_of_nonpos_left s3 v1.2
          have t2 : 0 ≤ d2 * β := Int.mul_nonneg s4 v2.1
          have t3 : d2 * β ≤ d2 * T := Int.mul_le_mul_of_nonneg_left v2.2 s4
          have t4 : c2 * α ≤ 0 := Int.mul_nonpos_of_nonpos_of_nonneg s3 v1.1
          have t5 : 0 ≤ c * α := Int.mul_nonneg s1 v1.1
          have t6 : d * T ≤ d * β := Int.mul_le_mul_of_nonpos_left s2 v2.2
          rw [Int.mul_comm T c2, Int.mul_comm T d2, Int.mul_comm T d, Int.mul_comm T c] at *
          omega
        · have t1 : c2 * α ≤ c2 * T := Int.mul_le_mul_of_nonneg_left v1.2 s3
          have t2 : d2 * β ≤ 0 := Int.mul_nonpos_of_nonpos_of_nonneg s4 v2.1
          have t3 : d2 * T ≤ d2 * β := Int.mul_le_mul_of_nonpos_left s4 v2.2
          have t4 : 0 ≤ c2 * α := Int.mul_nonneg s3 v1.1
          have t5 : 0 ≤ d * β := Int.mul_nonneg s2 v2.1
          have t6 : c * T ≤ c * α := Int.mul_le_mul_of_nonpos_left s1 v1.2
          rw [Int.mul_comm T c2, Int.mul_comm T d2, Int.mul_comm T d, Int.mul_comm T c] at *
          omega
      exact ⟨key.1, key.2, by omega⟩

theorem cut_bounds {l : List Nat} (h : Limbs l) (k s : Nat) :
    val (l.drop k) / 2 ^ s * (65536 ^ k * 2 ^ s) ≤ val l ∧ val l < val (l.drop k) / 2 ^ s * (65536 ^ k * 2 ^ s) + 65536 ^ k * 2 ^ s := by
  have e : val l = val (l.take k) + 65536 ^ k * val (l.drop k) := by
    rcases Nat.lt_or_ge l.length k with h1 | h1
    · rw [List.drop_eq_nil_of_le (by omega), List.take_of_length_le (by omega)]; simp [val]
    · have := val_append (l.take k) (l.drop k)
      rwa [List.take_append_drop, List.length_take, Nat.min_eq_left h1] at this
  have t : val (l.take k) < 65536 ^ k :=
    Nat.lt_of_lt_of_le (val_lt (limbs_take h k)) (Nat.pow_le_pow_right (by omega) (by rw [List.length_take]; exact Nat.min_le_left ..))
  generalize val (l.drop k) = H at *
  generalize val (l.take k) = t0 at *
  generalize 65536 ^ k = P at *
  have hS : 0 < 2 ^ s := Nat.two_pow_pos s
  generalize 2 ^ s = S at *
  have d := Nat.div_add_mod H S
  have r := Nat.mod_lt H hS
  generalize H / S = q at *
  have m1 : q * (P * S) = P * (S * q) := by grind
  have m2 : P * H = P * (S * q) + P * (H % S) := by rw [← Nat.mul_add, d]
  have m3 : P * (H % S + 1) ≤ P * S := Nat.mul_le_mul_left P r
  rw [Nat.mul_add] at m3
  rw [e, m1, m2]
  omega

theorem lead_facts {la lb : List Nat} {low s : Nat} (ha : Norm la) (hb : Norm lb) (hn : la.length = low + 4) (hle : val lb ≤ val la)
    (hs : val (la.drop low) < 2 ^ (s + 46)) (hs' : s = 0 ∨ 2 ^ s ≤ val (la.drop low)) :
    1 ≤ val (la.drop low) / 2 ^ s ∧ val (la.drop low) / 2 ^ s < 70368744177664 ∧ val (lb.drop low) / 2 ^ s ≤ val (la.drop low) / 2 ^ s ∧
    ∃ T : Nat, val (la.drop low) / 2 ^ s * T ≤ val la ∧ val la < val (la.drop low) / 2 ^ s * T + T ∧ val (lb.drop low) / 2 ^ s * T ≤ val lb ∧ val lb < val (lb.drop low) / 2 ^ s * T + T := by
  have hS : 0 < 2 ^ s := Nat.two_pow_pos s
  have ca := cut_bounds ha.1 low s
  have cb := cut_bounds hb.1 low s
  have hT : 0 < 65536 ^ low * 2 ^ s := Nat.mul_pos (Nat.pow_pos (by omega)) hS
  refine ⟨?_, ?_, ?_, _, ca.1, ca.2, cb.1, cb.2⟩
  · rw [Nat.one_le_div_iff hS]
    rcases hs' with rfl | h
    · rcases Nat.eq_zero_or_pos (val (la.drop low)) with h | h
      · exfalso
        rw [h] at ca
        have : val la < 65536 ^ low := by simpa using ca.2
        have := digs_length this
        rw [ha.2] at this
        omega
      · rw [Nat.pow_zero]; exact h
    · exact h
  · rw [Nat.div_lt_iff_lt_mul hS]
    rw [Nat.pow_add, Nat.mul_comm] at hs
    exact hs
  · generalize val (la.drop low) / 2 ^ s = p at *
    generalize val (lb.drop low) / 2 ^ s = q at *
    generalize 65536 ^ low * 2 ^ s = T at *
    rcases Nat.lt_or_ge p q with h | h
    · exfalso
      have : (p + 1) * T ≤ q * T := Nat.mul_le_mul_right T h
      rw [Nat.add_mul] at this
      omega
    · exact h

end Go.Proofs.Ytgnidjhfiagfnaa

namespace Go.Proofs.Ytgnidjhfiagfnaa
open Go.RowKit

/-- The factors that leading bits x0, y0 allow. -/
def Steps (x0 y0 a b c d : Int) : Prop := ∃ x y, Lh x0 y0 x y a b c d ∧ Lb x0 y0 a b c d

theorem lh_bounds {x0 y0 x y a b c d : Int} (H : Lh x0 y0 x y a b c d) :
    1 ≤ x ∧ x ≤ x0 ∧ 0 ≤ x + a ∧ 0 ≤ x + b ∧ 0 ≤ y + c ∧ 0 ≤ y + d ∧ -x0 ≤ y ∧ y ≤ x0 ∧ (-x0 ≤ a ∧ a ≤ x0) ∧ (-x0 ≤ b ∧ b ≤ x0) ∧ (-x0 ≤ c ∧ c ≤ x0) ∧ (-x0 ≤ d ∧ d ≤ x0) := by
  obtain ⟨e1, e2, hx, g1, g2, g3, g4, k1, k2, hs, b1, b2, b3, b4⟩ := H
  exact ⟨hx, k1, g1, g2, g3, g4, by omega, k2, b1, b2, b3, b4⟩

set_option maxRecDepth 100000 in
set_option maxHeartbeats 2000000 in
theorem steps_any (x0 y0 : Int) (w : World) (h1 : 1 ≤ x0) (h2 : x0 < 70368744177664) (h3 : 0 ≤ y0) (h4 : y0 ≤ x0) :
    Calls Try.prog 92 #[.int .i64 x0, .int .i64 y0] w fun e w' => ∃ a b c d : Int, e = .returned (.agg #[.int .i64 a, .int .i64 b, .int .i64 c, .int .i64 d]) ∧ Steps x0 y0 a b c d ∧ Below w.heap.size w w' := by
  obtain ⟨s1, s2⟩ := lh_start h1 h3 h4
  have HS : Hid (Lh x0 y0 x0 y0 1 0 0 1 ∧ Lb x0 y0 1 0 0 1) := ⟨s1, s2⟩
  clear s1 s2
  obtain ⟨S, hS⟩ : ∃ S, w.heap.size = S := ⟨_, rfl⟩
  go_enter Try.func92, Try.ntmps92
  go_wp2
  go_loopg [0, 1] (y0.toNat + 1) (fun g vx vy wr => ∃ x y a b c d : Int, vx = .int .i64 x ∧ vy = .int .i64 y ∧ Hid (Lh x0 y0 x y a b c d ∧ Lb x0 y0 a b c d) ∧ Hid (g = (y + c).toNat + 1) ∧ Blk wr (S + 1) 95 #[.int .i64 a, .int .i64 b, .int .i64 c, .int .i64 d] ∧ Blk wr S 95 #[.int .i64 0, .int .i64 0, .int .i64 0, .int .i64 0] ∧ Below S w wr)
  case atStart =>
    refine ⟨x0, y0, 1, 0, 0, 1, rfl, rfl, HS, by show _ = _; omega, ?_, ?_, ?_⟩
    · have := Blk.new (w.alloc (.cells #[.int .i64 0, .int .i64 0, .int .i64 0, .int .i64 0] 95)) 95 #[.int .i64 1, .int .i64 0, .int .i64 0, .int .i64 1]
      rwa [World.size_alloc, hS] at this
    · have := (Blk.new w 95 #[.int .i64 0, .int .i64 0, .int .i64 0, .int .i64 0]).alloc (.cells #[.int .i64 1, .int .i64 0, .int .i64 0, .int .i64 1] 95)
      rwa [hS] at this
    · rw [← hS]; exact (by repeat (first | exact Below.refl _ _ | assumption | refine Below.alloc ?_ (by first | (simp; done) | (simp; omega) | omega) _ | refine Below.setCell ?_ (by first | (simp; done) | (simp; omega) | omega) _ | refine Below.drew ?_))
  case round =>
    obtain ⟨x, y, a, b, c, d, rfl, rfl, H, HG, b1, b0, hb⟩ := hrel
    obtain ⟨k1, k2, k3, k4, k5, k6, k7, k8, ⟨a1, a2⟩, ⟨a3, a4⟩, ⟨a5, a6⟩, ⟨a7, a8⟩⟩ := lh_bounds H.out.1
    have c0 := (b1.cell 0).trans (b := some (Value.int .i64 a)) rfl
    have c1 := (b1.cell 1).trans (b := some (Value.int .i64 b)) rfl
    have c2 := (b1.cell 2).trans (b := some (Value.int .i64 c)) rfl
    have c3 := (b1.cell 3).trans (b := some (Value.int .i64 d)) rfl
    have d0 := (b0.cell 0).trans (b := some (Value.int .i64 0)) rfl
    have d1 := (b0.cell 1).trans (b := some (Value.int .i64 0)) rfl
    have d2 := (b0.cell 2).trans (b := some (Value.int .i64 0)) rfl
    have d3 := (b0.cell 3).trans (b := some (Value.int .i64 0)) rfl
    have f0 := b0.frozen 0
    have f1 := b0.frozen 1
    have f2 := b0.frozen 2
    have f3 := b0.frozen 3
    have g0 := b1.frozen 0
    have g1 := b1.frozen 1
    have g2 := b1.frozen 2
    have g3 := b1.frozen 3
    have z := (((b0.set_ 0 (.int .i64 a)).set_ 1 (.int .i64 b)).set_ 2 (.int .i64 c)).set_ 3 (.int .i64 d)
    have r0 := (z.cell 0).trans (b := some (Value.int .i64 a)) rfl
    have r1 := (z.cell 1).trans (b := some (Value.int .i64 b)) rfl
    have r2 := (z.cell 2).trans (b := some (Value.int .i64 c)) rfl
    have r3 := (z.cell 3).trans (b := some (Value.int .i64 d)) rfl
    have R : Hid (_ ∧ _ ∧ _ ∧ _) := ⟨r0, r1, r2, r3⟩
    have Z := Below.setCell (p := ⟨S, 3, none⟩) (Below.setCell (p := ⟨S, 2, none⟩) (Below.setCell (p := ⟨S, 1, none⟩) (Below.setCell (p := ⟨S, 0, none⟩) hb (by simp) (.int .i64 a)) (by simp) (.int .i64 b)) (by simp) (.int .i64 c)) (by simp) (.int .i64 d)
    have HZ : Hid (Below S w _) := Z
    clear Z z r0 r1 r2 r3
    by_cases e1 : y + c = 0
    · go_wp2
      all_goals (obtain ⟨r0, r1, r2, r3⟩ := R.out; refine bodyPost_ret (v := .agg #[.int .i64 a, .int .i64 b, .int .i64 c, .int .i64 d]) (by simp [results, Try.f92, Try.results92, go_sem, r0, r1, r2, r3]) rfl ⟨a, b, c, d, rfl, ⟨x, y, H.out⟩, by rw [hS]; exact HZ.out⟩)
    · by_cases e2 : y + d = 0
      · go_wp2
        all_goals (obtain ⟨r0, r1, r2, r3⟩ := R.out; refine bodyPost_ret (v := .agg #[.int .i64 a, .int .i64 b, .int .i64 c, .int .i64 d]) (by simp [results, Try.f92, Try.results92, go_sem, r0, r1, r2, r3]) rfl ⟨a, b, c, d, rfl, ⟨x, y, H.out⟩, by rw [hS]; exact HZ.out⟩)
      · have n1 : (y + c != 0) = true := by simp [e1]
        have n2 : (y + d != 0) = true := by simp [e2]
        by_cases e3 : (x + a) / (y + c) = (x + b) / (y + d)
        · obtain ⟨q, hq⟩ : ∃ q, (x + a) / (y + c) = q := ⟨_, rfl⟩
          have hq2 : (x + b) / (y + d) = q := by rw [← hq]; exact e3.symm
          obtain ⟨t1, t2, t3, t4, t5⟩ := lh_step (by omega) H.out.1 H.out.2 e1 e2 hq.symm hq2.symm
          obtain ⟨m1, hm1⟩ : ∃ m, q * c = m := ⟨_, rfl⟩
          obtain ⟨m2, hm2⟩ : ∃ m, q * d = m := ⟨_, rfl⟩
          obtain ⟨m3, hm3⟩ : ∃ m, q * y = m := ⟨_, rfl⟩
          rw [hm1, hm2, hm3] at t1
          rw [hm1, hm2] at t2
          rw [hm3] at t4
          rw [hm1, hm3] at t5
          obtain ⟨j1, j2, j3, j4, j5, j6, j7, j8, ⟨i1, i2⟩, ⟨i3, i4⟩, ⟨i5, i6⟩, ⟨i7, i8⟩⟩ := lh_bounds t1
          have T : Hid (Lh x0 y0 y (x - m3) c d (a - m1) (b - m2) ∧ Lb x0 y0 c d (a - m1) (b - m2)) := ⟨t1, t2⟩
          have T5 : Hid (x - m3 + (a - m1) < y + c) := t5
          clear t1 t2 t5 e3
          go_wp2
          go_roundg ((x - m3 + (a - m1)).toNat + 1)
          case measure => have := HG.out; have := T5.out; omega
          case rel =>
            refine ⟨y, x - m3, c, d, a - m1, b - m2, rfl, rfl, T, rfl, ?_, ?_, ?_⟩
            · exact (((b1.set_ 0 (.int .i64 c)).set_ 1 (.int .i64 d)).set_ 2 (.int .i64 (a - m1))).set_ 3 (.int .i64 (b - m2))
            · exact (((b0.far (p := ⟨S + 1, 0, none⟩) (by simp) _).far (p := ⟨S + 1, 1, none⟩) (by simp) _).far (p := ⟨S + 1, 2, none⟩) (by simp) _).far (p := ⟨S + 1, 3, none⟩) (by simp) _
            · exact Below.setCell (p := ⟨S + 1, 3, none⟩) (Below.setCell (p := ⟨S + 1, 2, none⟩) (Below.setCell (p := ⟨S + 1, 1, none⟩) (Below.setCell (p := ⟨S + 1, 0, none⟩) hb (by simp) _) (by simp) _) (by simp) _) (by simp) _
        · go_wp2
          all_goals (obtain ⟨r0, r1, r2, r3⟩ := R.out; refine bodyPost_ret (v := .agg #[.int .i64 a, .int .i64 b, .int .i64 c, .int .i64 d]) (by simp [results, Try.f92, Try.results92, go_sem, r0, r1, r2, r3]) rfl ⟨a, b, c, d, rfl, ⟨x, y, H.out⟩, by rw [hS]; exact HZ.out⟩)
end Go.Proofs.Ytgnidjhfiagfnaa

namespace Go.Proofs.Ytgnidjhfiagfnaa
open Go.RowKit

theorem sl_drop {w : World} {b off n c : Nat} {l : List Nat} (h : Sl w (.slice (some ⟨b, off, none⟩) n c) l) (hn : l.length = n) (k : Nat) (hk : k ≤ n) :
    Sl w (.slice (some ⟨b, off + k, none⟩) (n - k) (c - k)) (l.drop k) := by
  obtain ⟨hl, hm, A', c', e, h1, h2, hA⟩ := h
  injection e with e1 e2 e3
  subst e1 e3
  refine ⟨limbs_drop hl k, by rw [List.length_drop]; omega, _, c - k, by rw [List.length_drop, hn], by rw [List.length_drop]; omega, by omega, ?_⟩
  intro hne
  have hl0 : l ≠ [] := by intro e; subst e; simp at hne
  obtain ⟨b', off', e, h3, h4⟩ := hA hl0
  injection e with e
  injection e with e1 e2 e3
  subst e1 e2
  refine ⟨b, off + k, rfl, h3, fun j hj => ?_⟩
  rw [List.length_drop] at hj
  rw [nth_drop, Nat.add_assoc]
  exact h4 (k + j) (by omega)

theorem sl_some {w : World} {A : Option Addr} {n c : Nat} {l : List Nat} (h : Sl w (.slice A n c) l) (hn : l.length = n) (h0 : 0 < n) : ∃ b off, A = some ⟨b, off, none⟩ ∧ n ≤ c ∧ n ≤ 70368744177664 := by
  obtain ⟨hl, hm, A', c', e, h1, h2, hA⟩ := h
  injection e with e1 e2 e3
  subst e1 e3
  obtain ⟨b', off', e, h3, h4⟩ := hA (by intro e; subst e; simp at hn; omega)
  exact ⟨b', off', e, by omega, by omega⟩

set_option maxRecDepth 100000 in
set_option maxHeartbeats 2000000 in
theorem leading_any (la lb : List Nat) (A B : Option Addr) (na nb ca cb : Nat) (w : World) (hsa : Sl w (.slice A na ca) la) (hsb : Sl w (.slice B nb cb) lb) (hna : Hid (la.length = na)) (hnb : Hid (lb.length = nb))
    (ha : Norm la) (hb : Norm lb) (h4 : 4 ≤ na) (h1 : 1 ≤ nb) (hle : val lb ≤ val la) :
    Calls Try.prog 93 #[.slice A na ca, .slice B nb cb] w fun e w' => ∃ x y : Nat, e = .returned (.tuple #[.int .i64 x, .int .i64 y]) ∧ (1 ≤ x ∧ x < 70368744177664 ∧ y ≤ x ∧
      ∃ T : Nat, x * T ≤ val la ∧ val la < x * T + T ∧ y * T ≤ val lb ∧ val lb < y * T + T) ∧ Below w.heap.size w w' := by
  obtain ⟨ab, ao, rfl, ma1, ma2⟩ := sl_some hsa hna.out (by omega)
  obtain ⟨bb, bo, rfl, mb1, mb2⟩ := sl_some hsb hnb.out (by omega)
  have hlen : nb ≤ na := by
    have := hna.out; have := hnb.out
    rcases Nat.lt_or_ge la.length lb.length with h | h
    · have := norm_len_lt ha hb h; omega
    · omega
  obtain ⟨k, hk⟩ : ∃ k, na = k + 4 := ⟨na - 4, by omega⟩
  subst hk
  have S1 := sl_drop hsa hna.out k (by omega)
  have S2 := sl_drop hsb hnb.out (min k nb) (Nat.min_le_right ..)
  have hd : lb.drop (min k nb) = lb.drop k := by
    rcases Nat.le_total k nb with h | h
    · rw [Nat.min_eq_left h]
    · rw [Nat.min_eq_right h, List.drop_eq_nil_of_le (by rw [hnb.out]; omega), List.drop_eq_nil_of_le (by rw [hnb.out]; omega)]
  rw [hd] at S2
  rw [show k + 4 - k = 4 by omega] at S1
  have L1 : Hid ((la.drop k).length = 4) := by show _ = _; rw [List.length_drop, hna.out]; omega
  have L2 : Hid ((lb.drop k).length = nb - min k nb) := by show _ = _; rw [List.length_drop, hnb.out]; omega
  have v1 : val (la.drop k) ≤ 18446744073709551615 := by
    have h := val_lt S1.1
    rw [L1.out] at h
    have : (65536 : Nat) ^ 4 = 18446744073709551616 := by decide
    omega
  have v2 : val (lb.drop k) ≤ 18446744073709551615 := by
    have h := val_lt S2.1
    have : (65536 : Nat) ^ (lb.drop k).length ≤ 65536 ^ 4 := Nat.pow_le_pow_right (by omega) (by rw [L2.out]; omega)
    have : (65536 : Nat) ^ 4 = 18446744073709551616 := by decide
    omega
  have v0 : val (la.drop k) ≠ 0 := by
    intro h
    have c1 := cut_bounds ha.1 k 0
    rw [h] at c1
    have h3 : val la < 65536 ^ k := by simpa using c1.2
    have h5 := digs_length h3
    rw [ha.2, hna.out] at h5
    omega
  have hbits := Lib.bitLenAux_bounds 64 (val (la.drop k)) (by omega) v0
  obtain ⟨bl, hbl⟩ : ∃ bl, Lib.bitLen (val (la.drop k)) = bl := ⟨_, rfl⟩
  have hbl' : Lib.bitLenAux 64 (val (la.drop k)) = bl := hbl
  rw [hbl'] at hbits
  have hbm : bl ≤ 64 := by rw [← hbl]; exact Any.bitLen_le64 (val (la.drop k) : Int) (by omega) (by omega)
  obtain ⟨s, hs⟩ : ∃ s, s = bl - 46 := ⟨_, rfl⟩
  have F := lead_facts (low := k) (s := s) ha hb hna.out hle (Nat.lt_of_lt_of_le hbits.2.2 (Nat.pow_le_pow_right (by omega) (by omega)))
    (by
      rcases Nat.lt_or_ge 46 bl with h | h
      · exact Or.inr (Nat.le_trans (Nat.pow_le_pow_right (by omega) (by omega)) hbits.2.1)
      · exact Or.inl (by omega))
  have HF : Hid (_ ∧ _) := F
  have HL : Hid (∀ W, Calls Try.prog 96 #[.int .u64 (val (la.drop k))] W fun e w' => e = .returned (.int .i64 bl) ∧ W = w') := fun W => by
    refine (Try.bits_Len64 _ W (by omega) (by omega)).mono ?_
    rintro e w' ⟨rfl, rfl⟩
    exact ⟨by rw [Int.toNat_natCast, hbl], rfl⟩
  have W1 : Hid (∀ W, Below w.heap.size w W → Calls Try.prog 56 #[.slice (some ⟨ab, ao + k, none⟩) 4 (ca - k)] W fun e w' => e = .returned (.tuple #[.int .u64 (val (la.drop k)), .bool true]) ∧ Below W.heap.size W w') :=
    fun W hW => word_any _ _ _ _ W (S1.below hW) L1 (by omega)
  have W2 : Hid (∀ W, Below w.heap.size w W → Calls Try.prog 56 #[.slice (some ⟨bb, bo + min k nb, none⟩) (nb - min k nb : Nat) (cb - min k nb)] W fun e w' => e = .returned (.tuple #[.int .u64 (val (lb.drop k)), .bool true]) ∧ Below W.heap.size W w') :=
    fun W hW => word_any _ _ _ _ W (S2.below hW) L2 (by omega)
  have W3 : Hid (∀ W, cb = min k nb → Calls Try.prog 56 #[.slice (some ⟨bb, bo, none⟩) (nb - min k nb : Nat) 0] W fun e w' => e = .returned (.tuple #[.int .u64 (val (lb.drop k)), .bool true]) ∧ Below W.heap.size W w') := fun W hc => by
    have e0 : lb.drop k = [] := List.eq_nil_of_length_eq_zero (by rw [L2.out]; omega)
    rw [e0]
    refine word_any [] _ _ _ W ?_ (by show _ = _; simp; omega) (by omega)
    exact ⟨limbs_nil, by simp, _, 0, by rw [show nb - min k nb = 0 by omega]; rfl, by simp, by simp, fun h => absurd rfl h⟩
  clear F hbits hbl hbl' S1 S2 hsa hsb v0 hle ha hb hd
  generalize val (la.drop k) = H at *
  generalize val (lb.drop k) = K at *
  go_enter Try.func93, Try.ntmps93
  have hmin : min (k : Int) (nb : Int) = (min k nb : Nat) := by omega
  obtain ⟨m, hm⟩ : ∃ m, min k nb = m := ⟨_, rfl⟩
  have hmle : m ≤ nb := by omega
  rw [hm] at hmin W2 W3 L2
  clear hm
  have hsh : max 0 ((bl : Int) - 46) = (s : Int) := by omega
  have HX : Hid (bl - 46 = s) := hs.symm
  clear hs
  obtain ⟨x, hx⟩ : ∃ x, H / 2 ^ s = x := ⟨_, rfl⟩
  obtain ⟨y, hy⟩ : ∃ y, K / 2 ^ s = y := ⟨_, rfl⟩
  have hxI : (H : Int) / 2 ^ s = (x : Int) := by rw [← hx, Int.natCast_ediv, Int.natCast_pow]; rfl
  have hyI : (K : Int) / 2 ^ s = (y : Int) := by rw [← hy, Int.natCast_ediv, Int.natCast_pow]; rfl
  rw [hx, hy] at HF
  have x1 := HF.out.1
  have x2 := HF.out.2.1
  have x3 := HF.out.2.2.1
  clear hx hy
  by_cases hcb : cb = m
  · go_wp2_with fail
    refine (W1.out _ (Below.refl _ _)).mono ?_
    rintro e w1 ⟨rfl, hb1⟩
    go_wp2_with fail
    refine (W3.out _ hcb).mono ?_
    rintro e w2 ⟨rfl, hb2⟩
    go_wp2_with fail
    refine (HL.out _).mono ?_
    rintro e w3 ⟨rfl, rfl⟩
    go_wp2
    go_region
    go_wp2
    exact bodyPost_ret (v := .tuple #[.int .i64 x, .int .i64 y]) (by simp [results, Try.f93, Try.results93, go_sem]) rfl ⟨x, y, rfl, HF.out, (hb1.trans (hb2.mono hb1.size)).drew⟩
  · go_wp2_with fail
    refine (W1.out _ (Below.refl _ _)).mono ?_
    rintro e w1 ⟨rfl, hb1⟩
    go_wp2_with fail
    refine (W2.out _ hb1).mono ?_
    rintro e w2 ⟨rfl, hb2⟩
    go_wp2_with fail
    refine (HL.out _).mono ?_
    rintro e w3 ⟨rfl, rfl⟩
    go_wp2
    go_region
    go_wp2
    exact bodyPost_ret (v := .tuple #[.int .i64 x, .int .i64 y]) (by simp [results, Try.f93, Try.results93, go_sem]) rfl ⟨x, y, rfl, HF.out, (hb1.trans (hb2.mono hb1.size)).drew⟩
end Go.Proofs.Ytgnidjhfiagfnaa

namespace Go.Proofs.Ytgnidjhfiagfnaa
open Go.RowKit

theorem fit_mul {M : Nat} {a : Int} (h1 : 0 ≤ a) (h2 : a ≤ M) (u : Nat) (hu : u < 65536) : 0 ≤ (u : Int) * a ∧ (u : Int) * a ≤ 65535 * M := by
  constructor
  · exact Int.mul_nonneg (by omega) h1
  · exact Int.le_trans (Int.mul_le_mul_of_nonneg_right (show (u : Int) ≤ 65535 by omega) h1) (Int.mul_le_mul_of_nonneg_left h2 (by omega))

theorem fit_any {x0 a b : Int} (h0 : x0 < 70368744177664) (h1 : -x0 ≤ a ∧ a ≤ x0) (h2 : -x0 ≤ b ∧ b ≤ x0) (h : (0 ≤ a ∧ b ≤ 0) ∨ (a ≤ 0 ∧ 0 ≤ b)) : Fit a b 70368744177664 70368744177664 := by
  refine ⟨by omega, by omega, fun u v hu hv => ?_⟩
  rcases h with ⟨s1, s2⟩ | ⟨s1, s2⟩
  · have i1 := fit_mul (M := 70368744177664) s1 (by omega) u hu
    have i2 := fit_mul (M := 70368744177664) (a := -b) (by omega) (by omega) v hv
    rw [Int.mul_neg] at i2
    omega
  · have i1 := fit_mul (M := 70368744177664) s2 (by omega) v hv
    have i2 := fit_mul (M := 70368744177664) (a := -a) (by omega) (by omega) u hu
    rw [Int.mul_neg] at i2
    omega

/-- What the steps do to the numbers from which the leading bits came. -/
theorem steps_use {x0 y0 : Nat} {a b c d : Int} {A B T : Nat} (H : Steps x0 y0 a b c d) (hx : x0 < 70368744177664) (hb : b ≠ 0) (hAB : B ≤ A)
    (t1 : x0 * T ≤ A) (t2 : A < x0 * T + T) (t3 : y0 * T ≤ B) (t4 : B < y0 * T + T) :
    Fit a b 70368744177664 70368744177664 ∧ Fit c d 70368744177664 70368744177664 ∧
    ∃ m n : Nat, (A : Int) * a + B * b = (m : Int) ∧ (A : Int) * c + B * d = (n : Int) ∧ n ≤ m ∧ n < B ∧ m ≤ A ∧ Nat.gcd m n = Nat.gcd A B := by
  obtain ⟨x, y, H, hL⟩ := H
  obtain ⟨g3, g1, g2⟩ := hL T A B (by rw [← Int.natCast_mul]; omega) (by rw [← Int.natCast_mul]; omega) (by rw [← Int.natCast_mul]; omega) (by rw [← Int.natCast_mul]; omega) (by omega) (by omega)
  obtain ⟨e1, e2, hx', -, -, -, -, k1, k2, hs, b1, b2, b3, b4⟩ := H
  rcases g2 with ⟨-, h, -, -⟩ | ⟨f1, f2, f3⟩
  · exact absurd h hb
  refine ⟨fit_any (x0 := x0) (by omega) b1 b2 (by omega), fit_any (x0 := x0) (by omega) b3 b4 (by omega), (a * A + b * B).toNat, (c * A + d * B).toNat, ?_, ?_, ?_, ?_, ?_, ?_⟩
  · rw [Int.toNat_of_nonneg (by omega), Int.mul_comm a, Int.mul_comm b]
  · rw [Int.toNat_of_nonneg (by omega), Int.mul_comm c, Int.mul_comm d]
  · omega
  · omega
  · omega
  · have : Int.gcd (((a * A + b * B).toNat : Nat) : Int) (((c * A + d * B).toNat : Nat) : Int) = Int.gcd A B := by
      rw [Int.toNat_of_nonneg (by omega), Int.toNat_of_nonneg (by omega)]; exact g1
    exact this

theorem len_of_le {l : List Nat} {n : Nat} (hl : Limbs l) (h : n ≤ val l) : (digs n).length ≤ l.length :=
  digs_length (Nat.lt_of_le_of_lt h (val_lt hl))

set_option maxRecDepth 100000 in
set_option maxHeartbeats 20000000 in
theorem gcd_long_k (la lb : List Nat) (A B : Option Addr) (na nb ca cb : Nat) (w : World) (hsa : Sl w (.slice A na ca) la) (hsb : Sl w (.slice B nb cb) lb) (hna : Hid (la.length = na)) (hnb : Hid (lb.length = nb)) (ha : Norm la) (hb : Norm lb) (hla : na ≤ 4000) (hlb : nb ≤ 4000) (hlt : val lb ≤ val la) :
    Calls Try.prog 83 #[.slice A na ca, .slice B nb cb] w fun e w' => ∃ v, e = .returned v ∧ Sl w' v (digs (Nat.gcd (val la) (val lb))) ∧ Below w.heap.size w w' := by
  have hcl := cmpL_ge ha hb hlt
  have HC : Hid (Calls Try.prog 62 #[.slice A na ca, .slice B nb cb] w fun e w' => e = .returned (.int .i64 (cmpL la lb)) ∧ Below w.heap.size w w') := compare_sl hsa hsb (by rw [hna.out]; omega) (by rw [hnb.out]; omega)
  obtain ⟨G, hG⟩ : ∃ G, Nat.gcd (val la) (val lb) = G := ⟨_, rfl⟩
  have HG : Hid (Norm la ∧ Norm lb ∧ val lb ≤ val la ∧ Nat.gcd (val la) (val lb) = G) := ⟨ha, hb, hlt, hG⟩
  rw [hG]
  clear hG ha hb
  go_enter Try.func83, Try.ntmps83
  go_wp2_with (go_at_call 62; refine HC.out.mono ?_; clear HC; rintro e w1 ⟨rfl, hb1⟩)
  have s1 := hsa.below hb1
  have t1 := hsb.below hb1
  clear hsa hsb hlt
  go_loopg [0, 1] (val lb + 1) (fun g x y wr => ∃ la lb, Sl wr x la ∧ Sl wr y lb ∧ Hid (Norm la ∧ Norm lb ∧ val lb ≤ val la ∧ Nat.gcd (val la) (val lb) = G ∧ la.length ≤ 4000 ∧ lb.length ≤ 4000 ∧ g = val lb + 1) ∧ Below w.heap.size w wr)
  case atStart => exact ⟨la, lb, s1, t1, ⟨HG.out.1, HG.out.2.1, HG.out.2.2.1, HG.out.2.2.2, by rw [hna.out]; exact hla, by rw [hnb.out]; exact hlb, rfl⟩, hb1⟩
  case round =>
    clear s1 t1 hb1 HG hna hnb hla hlb
    obtain ⟨la, lb, s1, t1, H, hb1⟩ := hrel
    obtain ⟨na, A, ca, hna, rfl, s1⟩ := sl_len s1
    obtain ⟨nb, B, cb, hnb, rfl, t1⟩ := sl_len t1
    have hla : na ≤ 4000 := by have := H.out.2.2.2.2.1; have := hna.out; omega
    have hlb : nb ≤ 4000 := by have := H.out.2.2.2.2.2.1; have := hnb.out; omega
    by_cases h0 : nb = 0
    · have HZ : Hid (val lb = 0) := by
        have : lb = [] := List.eq_nil_of_length_eq_zero (by rw [hnb.out]; exact h0)
        show _ = _
        rw [this]; rfl
      subst h0
      have HK : Hid (Calls Try.prog 71 #[.slice A na ca] wr fun e w' => ∃ A' c', e = .returned (.slice A' na c') ∧ w'.ownsRow wr.heap.size 22 1 (.slice A' na c') na (vals la) ∧ Below wr.heap.size wr w') := by
        have := clone_sl s1
        rwa [hna.out] at this
      go_wp2_with (go_at_call 71; refine HK.out.mono ?_; rintro e w2 ⟨A', c', rfl, hown, hb2⟩)
      go_ret
      refine ⟨_, rfl, ?_, hb1.trans (hb2.mono hb1.size)⟩
      have hg : digs G = la := by rw [← H.out.2.2.2.1, HZ.out, Nat.gcd_zero_right]; exact H.out.1.2
      rw [hg]
      rw [← hna.out] at hown ⊢
      exact sl_own H.out.1.1 (by have := hna.out; omega) hown
    · have hnz : 0 < nb := by omega
      by_cases h4 : na ≤ 4
      · have hnb4 : nb ≤ 4 := by
          have := hna.out; have := hnb.out
          rcases Nat.lt_or_ge la.length lb.length with h | h
          · have := norm_len_lt H.out.1 H.out.2.1 h; have := H.out.2.2.1; omega
          · omega
        have hgl : G < 18446744073709551616 := by
          have l1 := val_lt s1.1
          have m1 : val la < 18446744073709551616 := Nat.lt_of_lt_of_le l1 (Nat.le_trans (Nat.pow_le_pow_right (by omega) (by rw [hna.out]; exact h4)) (by decide : 65536 ^ 4 ≤ 18446744073709551616))
          have e := H.out.2.2.2.1
          rcases Nat.eq_zero_or_pos (val la) with h | h
          · have h5 : val lb = 0 := by have := H.out.2.2.1; omega
            rw [h, h5] at e
            simp at e
            omega
          · rw [← e]; exact Nat.lt_of_le_of_lt (Nat.gcd_le_left _ h) (by assumption)
        have HW : Hid (Calls Try.prog 91 #[.slice A na ca, .slice B nb cb] wr fun e w' => e = .returned (.int .u64 G) ∧ Below wr.heap.size wr w') := by
          rw [← H.out.2.2.2.1]
          exact gcdWords_any la lb A B na nb ca cb wr s1 t1 hna hnb (by omega) (by omega)
        go_wp2_with (first | (go_at_call 91; refine HW.out.mono ?_; clear HW; rintro e w2 ⟨rfl, hb2⟩) | (go_at_call 60; refine (limbsOf_any _ _ (by omega) (by omega)).mono ?_; rintro e w3 ⟨v, rfl, hs, hb3⟩))
        go_ret
        rw [Int.toNat_natCast] at hs
        exact ⟨v, rfl, hs, (hb1.trans (hb2.mono hb1.size)).trans (hb3.mono (Nat.le_trans hb1.size hb2.size))⟩
      · have HLd : Hid (Calls Try.prog 93 #[.slice A na ca, .slice B nb cb] wr _) := leading_any la lb A B na nb ca cb wr s1 t1 hna hnb H.out.1 H.out.2.1 (by omega) (by omega) H.out.2.2.1
        go_wp2_with fail
        refine HLd.out.mono ?_
        clear HLd
        rintro e w2 ⟨x, y, rfl, HX, hb2⟩
        replace HX : Hid (_ ∧ _) := HX
        go_wp2_with fail
        refine (steps_any x y w2 (by have := HX.out.1; omega) (by have := HX.out.2.1; omega) (by omega) (by have := HX.out.2.2.1; omega)).mono ?_
        rintro e w3 ⟨a, b, c, d, rfl, HS, hb3⟩
        replace HS : Hid (Steps x y a b c d) := HS
        have bw3 := (hb1.trans (hb2.mono hb1.size)).trans (hb3.mono (Nat.le_trans hb1.size hb2.size))
        have s3 := (s1.below hb2).below hb3
        have t3 := (t1.below hb2).below hb3
        clear s1 t1 hb1 hb2 hb3
        obtain ⟨w4, hw4⟩ : ∃ w4, w3.alloc (.cells #[.int .i64 a, .int .i64 b, .int .i64 c, .int .i64 d] 95) = w4 := ⟨_, rfl⟩
        have bl : Blk w4 w3.heap.size 95 #[.int .i64 a, .int .i64 b, .int .i64 c, .int .i64 d] := by rw [← hw4]; exact Blk.new ..
        have hb4 : Below w3.heap.size w3 w4 := by rw [← hw4]; exact (by repeat (first | exact Below.refl _ _ | assumption | refine Below.alloc ?_ (by first | (simp; done) | (simp; omega) | omega) _ | refine Below.setCell ?_ (by first | (simp; done) | (simp; omega) | omega) _ | refine Below.drew ?_))
        have s4 := s3.below hb4
        have t4 := t3.below hb4
        have bw4 := bw3.trans (hb4.mono bw3.size)
        obtain ⟨S, hS⟩ : ∃ S, w3.heap.size = S := ⟨_, rfl⟩
        rw [hS] at bl
        have HW4 : Hid (w3.alloc (.cells #[.int .i64 a, .int .i64 b, .int .i64 c, .int .i64 d] 95) = w4) := hw4
        clear s3 t3 hb4 hw4
        have BL : Hid (Blk w4 S 95 #[.int .i64 a, .int .i64 b, .int .i64 c, .int .i64 d]) := bl
        rw [← HW4.out] at bl
        have c0 := (bl.cell 0).trans (b := some (Value.int .i64 a)) rfl
        have c1 := (bl.cell 1).trans (b := some (Value.int .i64 b)) rfl
        have c2 := (bl.cell 2).trans (b := some (Value.int .i64 c)) rfl
        have c3 := (bl.cell 3).trans (b := some (Value.int .i64 d)) rfl
        clear bl
        by_cases hbz : b = 0
        · have HD : Hid (Calls Try.prog 58 #[.slice A na ca, .slice B nb cb] w4 _) := divc_any H.out.1 H.out.2.1 H.out.2.2.2.2.1 H.out.2.2.2.2.2.1 (by intro e; have := hnb.out; rw [e] at this; simp at this; omega) w4 _ _ s4 t4
          subst hbz
          go_wp2_with fail
          rw [HW4.out]
          refine HD.out.mono ?_
          clear HD
          rintro e w5 ⟨q, r, rfl, sq, sr, hb5⟩
          have t5 := t4.below hb5
          have bw5 := bw4.trans (hb5.mono bw4.size)
          clear sq s4 t4 hb5
          go_wp2
          have hpos : 0 < val lb := by
            rcases Nat.eq_zero_or_pos (val lb) with h | h
            · have e1 := H.out.2.1.2
              rw [h, digs_zero] at e1
              have := hnb.out
              rw [← e1] at this
              simp at this
              omega
            · exact h
          have hml := Nat.mod_lt (val la) hpos
          go_roundg (val la % val lb + 1)
          case measure => have := H.out.2.2.2.2.2.2; omega
          case rel =>
            refine ⟨lb, digs (val la % val lb), t5, sr, ⟨H.out.2.1, norm_digs _, ?_, ?_, H.out.2.2.2.2.2.1, ?_, ?_⟩, bw5⟩
            · rw [val_digs]; omega
            · rw [val_digs, ← H.out.2.2.2.1, Nat.gcd_comm (val la), Nat.gcd_rec (val lb) (val la), Nat.gcd_comm]
            · exact Nat.le_trans (len_of_le H.out.2.1.1 (by omega)) H.out.2.2.2.2.2.1
            · rw [val_digs]
        · obtain ⟨T, z1, z2, z3, z4⟩ := HX.out.2.2.2
          obtain ⟨fit1, fit2, m, n, y1, y2, y3, y4, y5, y6⟩ := steps_use HS.out HX.out.2.1 hbz H.out.2.2.1 z1 z2 z3 z4
          have C1 : Hid (∀ W va vb, Sl W va la → Sl W vb lb → Calls Try.prog 82 #[va, .int .i64 a, vb, .int .i64 b] W fun e w' => ∃ v, e = .returned v ∧ Sl w' v (digs m) ∧ Below W.heap.size W w') := fun W va vb hA hB => by
            have := combine_sl hA hB (by rw [hna.out]; omega) (by rw [hnb.out]; omega) fit1 (m : Int) (by omega) y1
            rwa [Int.toNat_natCast] at this
          have C2 : Hid (∀ W va vb, Sl W va la → Sl W vb lb → Calls Try.prog 82 #[va, .int .i64 c, vb, .int .i64 d] W fun e w' => ∃ v, e = .returned v ∧ Sl w' v (digs n) ∧ Below W.heap.size W w') := fun W va vb hA hB => by
            have := combine_sl hA hB (by rw [hna.out]; omega) (by rw [hnb.out]; omega) fit2 (n : Int) (by omega) y2
            rwa [Int.toNat_natCast] at this
          have Y : Hid (n ≤ m ∧ n < val lb ∧ m ≤ val la ∧ Nat.gcd m n = Nat.gcd (val la) (val lb)) := ⟨y3, y4, y5, y6⟩
          clear fit1 fit2 y1 y2 y3 y4 y5 y6 z1 z2 z3 z4 HX HS
          go_wp2_with fail
          rw [HW4.out]
          clear c0 c1 c2 c3
          have bl0 := BL.out.drew
          have c0 := (bl0.cell 0).trans (b := some (Value.int .i64 a)) rfl
          have c1 := (bl0.cell 1).trans (b := some (Value.int .i64 b)) rfl
          have c2 := (bl0.cell 2).trans (b := some (Value.int .i64 c)) rfl
          have c3 := (bl0.cell 3).trans (b := some (Value.int .i64 d)) rfl
          have hl0 := bl0.lt
          have kk0 := And.intro c0 (And.intro c1 (And.intro c2 c3))
          have s40 : Sl w4.drew (.slice A na ca) la := s4
          have t40 : Sl w4.drew (.slice B nb cb) lb := t4
          have bw40 := bw4.drew
          clear s4 t4 bw4 c0 c1 c2 c3
          go_region_held3 (fun w' => w'.cell? ⟨S, 0, none⟩ = some (.int .i64 a) ∧ w'.cell? ⟨S, 1, none⟩ = some (.int .i64 b) ∧ w'.cell? ⟨S, 2, none⟩ = some (.int .i64 c) ∧ w'.cell? ⟨S, 3, none⟩ = some (.int .i64 d))
            (first | (with_reducible exact kk2) | (with_reducible exact kk1) | (with_reducible exact kk0))
            (first
              | (have _guard := kk1; clear _guard; go_at_call 82; refine (C2.out _ _ _ s41 t41).mono ?_; rintro e w6 ⟨v2, rfl, sn, hb6⟩; have bl2 := bl1.below hb6 bl1.lt; have sm2 := sm.below hb6; have bw42 := bw41.trans (hb6.mono bw41.size); have kk2 := And.intro ((bl2.cell 0).trans (b := some (Value.int .i64 a)) rfl) (And.intro ((bl2.cell 1).trans (b := some (Value.int .i64 b)) rfl) (And.intro ((bl2.cell 2).trans (b := some (Value.int .i64 c)) rfl) ((bl2.cell 3).trans (b := some (Value.int .i64 d)) rfl))); clear kk1 sm bl1 bw41 s41 t41 hb6)
              | (go_at_call 82; refine (C1.out _ _ _ s40 t40).mono ?_; rintro e w5 ⟨v1, rfl, sm, hb5⟩; have bl1 := bl0.below hb5 hl0; have s41 := s40.below hb5; have t41 := t40.below hb5; have bw41 := bw40.trans (hb5.mono bw40.size); have kk1 := And.intro ((bl1.cell 0).trans (b := some (Value.int .i64 a)) rfl) (And.intro ((bl1.cell 1).trans (b := some (Value.int .i64 b)) rfl) (And.intro ((bl1.cell 2).trans (b := some (Value.int .i64 c)) rfl) ((bl1.cell 3).trans (b := some (Value.int .i64 d)) rfl))); clear kk0 bl0 hl0 bw40 s40 t40 hb5))
          go_wp2
          go_roundg (n + 1)
          case measure => have := H.out.2.2.2.2.2.2; have := Y.out.2.1; omega
          case rel =>
            refine ⟨digs m, digs n, sm2, sn, ⟨norm_digs _, norm_digs _, ?_, ?_, ?_, ?_, ?_⟩, bw42⟩
            · rw [val_digs, val_digs]; exact Y.out.1
            · rw [val_digs, val_digs, Y.out.2.2.2, H.out.2.2.2.1]
            · exact Nat.le_trans (len_of_le H.out.1.1 Y.out.2.2.1) H.out.2.2.2.2.1
            · exact Nat.le_trans (len_of_le H.out.2.1.1 (Nat.le_of_lt Y.out.2.1)) H.out.2.2.2.2.2.1
            · rw [val_digs]

set_option maxRecDepth 100000 in
set_option maxHeartbeats 20000000 in
theorem gcd_long_s (la lb : List Nat) (A B : Option Addr) (na nb ca cb : Nat) (w : World) (hsa : Sl w (.slice A na ca) la) (hsb : Sl w (.slice B nb cb) lb) (hna : Hid (la.length = na)) (hnb : Hid (lb.length = nb)) (ha : Norm la) (hb : Norm lb) (hla : na ≤ 4000) (hlb : nb ≤ 4000) (hlt : val la < val lb) :
    Calls Try.prog 83 #[.slice A na ca, .slice B nb cb] w fun e w' => ∃ v, e = .returned v ∧ Sl w' v (digs (Nat.gcd (val la) (val lb))) ∧ Below w.heap.size w w' := by
  have hcl := cmpL_lt ha hb hlt
  have HC : Hid (Calls Try.prog 62 #[.slice A na ca, .slice B nb cb] w fun e w' => e = .returned (.int .i64 (cmpL la lb)) ∧ Below w.heap.size w w') := compare_sl hsa hsb (by rw [hna.out]; omega) (by rw [hnb.out]; omega)
  obtain ⟨G, hG⟩ : ∃ G, Nat.gcd (val la) (val lb) = G := ⟨_, rfl⟩
  have HG : Hid (Norm la ∧ Norm lb ∧ val la < val lb ∧ Nat.gcd (val la) (val lb) = G) := ⟨ha, hb, hlt, hG⟩
  rw [hG]
  clear hG ha hb
  go_enter Try.func83, Try.ntmps83
  go_wp2_with (go_at_call 62; refine HC.out.mono ?_; clear HC; rintro e w1 ⟨rfl, hb1⟩)
  have s1 := hsa.below hb1
  have t1 := hsb.below hb1
  clear hsa hsb hlt
  go_loopg [0, 1] (val la + 1) (fun g x y wr => ∃ la lb, Sl wr x la ∧ Sl wr y lb ∧ Hid (Norm la ∧ Norm lb ∧ val lb ≤ val la ∧ Nat.gcd (val la) (val lb) = G ∧ la.length ≤ 4000 ∧ lb.length ≤ 4000 ∧ g = val lb + 1) ∧ Below w.heap.size w wr)
  case atStart => exact ⟨lb, la, t1, s1, ⟨HG.out.2.1, HG.out.1, Nat.le_of_lt HG.out.2.2.1, (Nat.gcd_comm _ _).trans HG.out.2.2.2, by rw [hnb.out]; exact hlb, by rw [hna.out]; exact hla, rfl⟩, hb1⟩
  case round =>
    clear s1 t1 hb1 HG hna hnb hla hlb
    obtain ⟨la, lb, s1, t1, H, hb1⟩ := hrel
    obtain ⟨na, A, ca, hna, rfl, s1⟩ := sl_len s1
    obtain ⟨nb, B, cb, hnb, rfl, t1⟩ := sl_len t1
    have hla : na ≤ 4000 := by have := H.out.2.2.2.2.1; have := hna.out; omega
    have hlb : nb ≤ 4000 := by have := H.out.2.2.2.2.2.1; have := hnb.out; omega
    by_cases h0 : nb = 0
    · have HZ : Hid (val lb = 0) := by
        have : lb = [] := List.eq_nil_of_length_eq_zero (by rw [hnb.out]; exact h0)
        show _ = _
        rw [this]; rfl
      subst h0
      have HK : Hid (Calls Try.prog 71 #[.slice A na ca] wr fun e w' => ∃ A' c', e = .returned (.slice A' na c') ∧ w'.ownsRow wr.heap.size 22 1 (.slice A' na c') na (vals la) ∧ Below wr.heap.size wr w') := by
        have := clone_sl s1
        rwa [hna.out] at this
      go_wp2_with (go_at_call 71; refine HK.out.mono ?_; rintro e w2 ⟨A', c', rfl, hown, hb2⟩)
      go_ret
      refine ⟨_, rfl, ?_, hb1.trans (hb2.mono hb1.size)⟩
      have hg : digs G = la := by rw [← H.out.2.2.2.1, HZ.out, Nat.gcd_zero_right]; exact H.out.1.2
      rw [hg]
      rw [← hna.out] at hown ⊢
      exact sl_own H.out.1.1 (by have := hna.out; omega) hown
    · have hnz : 0 < nb := by omega
      by_cases h4 : na ≤ 4
      · have hnb4 : nb ≤ 4 := by
          have := hna.out; have := hnb.out
          rcases Nat.lt_or_ge la.length lb.length with h | h
          · have := norm_len_lt H.out.1 H.out.2.1 h; have := H.out.2.2.1; omega
          · omega
        have hgl : G < 18446744073709551616 := by
          have l1 := val_lt s1.1
          have m1 : val la < 18446744073709551616 := Nat.lt_of_lt_of_le l1 (Nat.le_trans (Nat.pow_le_pow_right (by omega) (by rw [hna.out]; exact h4)) (by decide : 65536 ^ 4 ≤ 18446744073709551616))
          have e := H.out.2.2.2.1
          rcases Nat.eq_zero_or_pos (val la) with h | h
          · have h5 : val lb = 0 := by have := H.out.2.2.1; omega
            rw [h, h5] at e
            simp at e
            omega
          · rw [← e]; exact Nat.lt_of_le_of_lt (Nat.gcd_le_left _ h) (by assumption)
        have HW : Hid (Calls Try.prog 91 #[.slice A na ca, .slice B nb cb] wr fun e w' => e = .returned (.int .u64 G) ∧ Below wr.heap.size wr w') := by
          rw [← H.out.2.2.2.1]
          exact gcdWords_any la lb A B na nb ca cb wr s1 t1 hna hnb (by omega) (by omega)
        go_wp2_with (first | (go_at_call 91; refine HW.out.mono ?_; clear HW; rintro e w2 ⟨rfl, hb2⟩) | (go_at_call 60; refine (limbsOf_any _ _ (by omega) (by omega)).mono ?_; rintro e w3 ⟨v, rfl, hs, hb3⟩))
        go_ret
        rw [Int.toNat_natCast] at hs
        exact ⟨v, rfl, hs, (hb1.trans (hb2.mono hb1.size)).trans (hb3.mono (Nat.le_trans hb1.size hb2.size))⟩
      · have HLd : Hid (Calls Try.prog 93 #[.slice A na ca, .slice B nb cb] wr _) := leading_any la lb A B na nb ca cb wr s1 t1 hna hnb H.out.1 H.out.2.1 (by omega) (by omega) H.out.2.2.1
        go_wp2_with fail
        refine HLd.out.mono ?_
        clear HLd
        rintro e w2 ⟨x, y, rfl, HX, hb2⟩
        replace HX : Hid (_ ∧ _) := HX
        go_wp2_with fail
        refine (steps_any x y w2 (by have := HX.out.1; omega) (by have := HX.out.2.1; omega) (by omega) (by have := HX.out.2.2.1; omega)).mono ?_
        rintro e w3 ⟨a, b, c, d, rfl, HS, hb3⟩
        replace HS : Hid (Steps x y a b c d) := HS
        have bw3 := (hb1.trans (hb2.mono hb1.size)).trans (hb3.mono (Nat.le_trans hb1.size hb2.size))
        have s3 := (s1.below hb2).below hb3
        have t3 := (t1.below hb2).below hb3
        clear s1 t1 hb1 hb2 hb3
        obtain ⟨w4, hw4⟩ : ∃ w4, w3.alloc (.cells #[.int .i64 a, .int .i64 b, .int .i64 c, .int .i64 d] 95) = w4 := ⟨_, rfl⟩
        have bl : Blk w4 w3.heap.size 95 #[.int .i64 a, .int .i64 b, .int .i64 c, .int .i64 d] := by rw [← hw4]; exact Blk.new ..
        have hb4 : Below w3.heap.size w3 w4 := by rw [← hw4]; exact (by repeat (first | exact Below.refl _ _ | assumption | refine Below.alloc ?_ (by first | (simp; done) | (simp; omega) | omega) _ | refine Below.setCell ?_ (by first | (simp; done) | (simp; omega) | omega) _ | refine Below.drew ?_))
        have s4 := s3.below hb4
        have t4 := t3.below hb4
        have bw4 := bw3.trans (hb4.mono bw3.size)
        obtain ⟨S, hS⟩ : ∃ S, w3.heap.size = S := ⟨_, rfl⟩
        rw [hS] at bl
        have HW4 : Hid (w3.alloc (.cells #[.int .i64 a, .int .i64 b, .int .i64 c, .int .i64 d] 95) = w4) := hw4
        clear s3 t3 hb4 hw4
        have BL : Hid (Blk w4 S 95 #[.int .i64 a, .int .i64 b, .int .i64 c, .int .i64 d]) := bl
        rw [← HW4.out] at bl
        have c0 := (bl.cell 0).trans (b := some (Value.int .i64 a)) rfl
        have c1 := (bl.cell 1).trans (b := some (Value.int .i64 b)) rfl
        have c2 := (bl.cell 2).trans (b := some (Value.int .i64 c)) rfl
        have c3 := (bl.cell 3).trans (b := some (Value.int .i64 d)) rfl
        clear bl
        by_cases hbz : b = 0
        · have HD : Hid (Calls Try.prog 58 #[.slice A na ca, .slice B nb cb] w4 _) := divc_any H.out.1 H.out.2.1 H.out.2.2.2.2.1 H.out.2.2.2.2.2.1 (by intro e; have := hnb.out; rw [e] at this; simp at this; omega) w4 _ _ s4 t4
          subst hbz
          go_wp2_with fail
          rw [HW4.out]
          refine HD.out.mono ?_
          clear HD
          rintro e w5 ⟨q, r, rfl, sq, sr, hb5⟩
          have t5 := t4.below hb5
          have bw5 := bw4.trans (hb5.mono bw4.size)
          clear sq s4 t4 hb5
          go_wp2
          have hpos : 0 < val lb := by
            rcases Nat.eq_zero_or_pos (val lb) with h | h
            · have e1 := H.out.2.1.2
              rw [h, digs_zero] at e1
              have := hnb.out
              rw [← e1] at this
              simp at this
              omega
            · exact h
          have hml := Nat.mod_lt (val la) hpos
          go_roundg (val la % val lb + 1)
          case measure => have := H.out.2.2.2.2.2.2; omega
          case rel =>
            refine ⟨lb, digs (val la % val lb), t5, sr, ⟨H.out.2.1, norm_digs _, ?_, ?_, H.out.2.2.2.2.2.1, ?_, ?_⟩, bw5⟩
            · rw [val_digs]; omega
            · rw [val_digs, ← H.out.2.2.2.1, Nat.gcd_comm (val la), Nat.gcd_rec (val lb) (val la), Nat.gcd_comm]
            · exact Nat.le_trans (len_of_le H.out.2.1.1 (by omega)) H.out.2.2.2.2.2.1
            · rw [val_digs]
        · obtain ⟨T, z1, z2, z3, z4⟩ := HX.out.2.2.2
          obtain ⟨fit1, fit2, m, n, y1, y2, y3, y4, y5, y6⟩ := steps_use HS.out HX.out.2.1 hbz H.out.2.2.1 z1 z2 z3 z4
          have C1 : Hid (∀ W va vb, Sl W va la → Sl W vb lb → Calls Try.prog 82 #[va, .int .i64 a, vb, .int .i64 b] W fun e w' => ∃ v, e = .returned v ∧ Sl w' v (digs m) ∧ Below W.heap.size W w') := fun W va vb hA hB => by
            have := combine_sl hA hB (by rw [hna.out]; omega) (by rw [hnb.out]; omega) fit1 (m : Int) (by omega) y1
            rwa [Int.toNat_natCast] at this
          have C2 : Hid (∀ W va vb, Sl W va la → Sl W vb lb → Calls Try.prog 82 #[va, .int .i64 c, vb, .int .i64 d] W fun e w' => ∃ v, e = .returned v ∧ Sl w' v (digs n) ∧ Below W.heap.size W w') := fun W va vb hA hB => by
            have := combine_sl hA hB (by rw [hna.out]; omega) (by rw [hnb.out]; omega) fit2 (n : Int) (by omega) y2
            rwa [Int.toNat_natCast] at this
          have Y : Hid (n ≤ m ∧ n < val lb ∧ m ≤ val la ∧ Nat.gcd m n = Nat.gcd (val la) (val lb)) := ⟨y3, y4, y5, y6⟩
          clear fit1 fit2 y1 y2 y3 y4 y5 y6 z1 z2 z3 z4 HX HS
          go_wp2_with fail
          rw [HW4.out]
          clear c0 c1 c2 c3
          have bl0 := BL.out.drew
          have c0 := (bl0.cell 0).trans (b := some (Value.int .i64 a)) rfl
          have c1 := (bl0.cell 1).trans (b := some (Value.int .i64 b)) rfl
          have c2 := (bl0.cell 2).trans (b := some (Value.int .i64 c)) rfl
          have c3 := (bl0.cell 3).trans (b := some (Value.int .i64 d)) rfl
          have hl0 := bl0.lt
          have kk0 := And.intro c0 (And.intro c1 (And.intro c2 c3))
          have s40 : Sl w4.drew (.slice A na ca) la := s4
          have t40 : Sl w4.drew (.slice B nb cb) lb := t4
          have bw40 := bw4.drew
          clear s4 t4 bw4 c0 c1 c2 c3
          go_region_held3 (fun w' => w'.cell? ⟨S, 0, none⟩ = some (.int .i64 a) ∧ w'.cell? ⟨S, 1, none⟩ = some (.int .i64 b) ∧ w'.cell? ⟨S, 2, none⟩ = some (.int .i64 c) ∧ w'.cell? ⟨S, 3, none⟩ = some (.int .i64 d))
            (first | (with_reducible exact kk2) | (with_reducible exact kk1) | (with_reducible exact kk0))
            (first
              | (have _guard := kk1; clear _guard; go_at_call 82; refine (C2.out _ _ _ s41 t41).mono ?_; rintro e w6 ⟨v2, rfl, sn, hb6⟩; have bl2 := bl1.below hb6 bl1.lt; have sm2 := sm.below hb6; have bw42 := bw41.trans (hb6.mono bw41.size); have kk2 := And.intro ((bl2.cell 0).trans (b := some (Value.int .i64 a)) rfl) (And.intro ((bl2.cell 1).trans (b := some (Value.int .i64 b)) rfl) (And.intro ((bl2.cell 2).trans (b := some (Value.int .i64 c)) rfl) ((bl2.cell 3).trans (b := some (Value.int .i64 d)) rfl))); clear kk1 sm bl1 bw41 s41 t41 hb6)
              | (go_at_call 82; refine (C1.out _ _ _ s40 t40).mono ?_; rintro e w5 ⟨v1, rfl, sm, hb5⟩; have bl1 := bl0.below hb5 hl0; have s41 := s40.below hb5; have t41 := t40.below hb5; have bw41 := bw40.trans (hb5.mono bw40.size); have kk1 := And.intro ((bl1.cell 0).trans (b := some (Value.int .i64 a)) rfl) (And.intro ((bl1.cell 1).trans (b := some (Value.int .i64 b)) rfl) (And.intro ((bl1.cell 2).trans (b := some (Value.int .i64 c)) rfl) ((bl1.cell 3).trans (b := some (Value.int .i64 d)) rfl))); clear kk0 bl0 hl0 bw40 s40 t40 hb5))
          go_wp2
          go_roundg (n + 1)
          case measure => have := H.out.2.2.2.2.2.2; have := Y.out.2.1; omega
          case rel =>
            refine ⟨digs m, digs n, sm2, sn, ⟨norm_digs _, norm_digs _, ?_, ?_, ?_, ?_, ?_⟩, bw42⟩
            · rw [val_digs, val_digs]; exact Y.out.1
            · rw [val_digs, val_digs, Y.out.2.2.2, H.out.2.2.2.1]
            · exact Nat.le_trans (len_of_le H.out.1.1 Y.out.2.2.1) H.out.2.2.2.2.1
            · exact Nat.le_trans (len_of_le H.out.2.1.1 (Nat.le_of_lt Y.out.2.1)) H.out.2.2.2.2.2.1
            · rw [val_digs]

theorem gcdc_any {la lb : List Nat} (ha : Norm la) (hb : Norm lb) (hla : la.length ≤ 4000) (hlb : lb.length ≤ 4000) : GcdC la lb := by
  intro W va vb sa sb
  obtain ⟨na, A, ca, hna, rfl, sa⟩ := sl_len sa
  obtain ⟨nb, B, cb, hnb, rfl, sb⟩ := sl_len sb
  have h1 : na ≤ 4000 := by have := hna.out; omega
  have h2 : nb ≤ 4000 := by have := hnb.out; omega
  by_cases h : val la < val lb
  · exact gcd_long_s la lb A B na nb ca cb W sa sb hna hnb ha hb h1 h2 h
  · exact gcd_long_k la lb A B na nb ca cb W sa sb hna hnb ha hb h1 h2 (by omega)
end Go.Proofs.Ytgnidjhfiagfnaa

namespace Go.Proofs.Ytgnidjhfiagfnaa
open Go.RowKit

theorem lz_gcd {y z : Int} (hy : Lz 1024 y) (hz : Lz 1024 z) : Lz 1024 ((Int.gcd y z : Nat) : Int) := by
  unfold Lz at *
  rw [Int.natAbs_natCast]
  rcases Nat.eq_zero_or_pos y.natAbs with h | h
  · have e : Int.gcd y z = z.natAbs := by unfold Int.gcd; rw [h, Nat.gcd_zero_left]
    rw [e]; exact hz
  · have e : Int.gcd y z ≤ y.natAbs := Nat.gcd_le_left _ h
    have := lt_of_digs_length hy
    exact digs_length (by omega)

theorem gcd_zz {w : World} {va vb : Value} {y z : Int} (hA : WhZ w va y) (hB : WhZ w vb z) (hy : Lz 1024 y) (hz : Lz 1024 z) :
    Calls Try.prog 36 #[va, vb] w fun e w' => ∃ v, e = .returned (.tuple #[v, .int .i64 0]) ∧ WhZ w' v ((Int.gcd y z : Nat) : Int) ∧ Below w.heap.size w w' := by
  have := gcd_wh hA hB (fun _ _ => gcdc_any (norm_digs y.natAbs) (norm_digs z.natAbs) (Nat.le_trans hy (by omega)) (Nat.le_trans hz (by omega)))
  rw [hy.ok (Nat.le_refl _), hz.ok (Nat.le_refl _), val_digs, val_digs] at this
  have h : Lz 1024 ((Nat.gcd y.natAbs z.natAbs : Nat) : Int) := lz_gcd hy hz
  rw [Bool.and_self, code_ok h, resz_ok h] at this
  exact this

set_option maxRecDepth 100000 in
set_option maxHeartbeats 2000000 in
theorem divv_any {x y : Bool} {A B : Option Addr} {na nb ca cb : Nat} {z : Int} {w : World} (H : Hid (∀ W, Below w.heap.size w W → Calls Try.prog 29 #[.agg #[.bool x, .slice A na ca], .agg #[.bool y, .slice B nb cb]] W fun e w' => ∃ v r, e = .returned (.tuple #[v, r, .int .i64 0]) ∧ WhZ w' v z ∧ WhZ w' r 0 ∧ Below W.heap.size W w')) :
    Calls Try.prog 37 #[.agg #[.bool x, .slice A na ca], .agg #[.bool y, .slice B nb cb]] w fun e w' => ∃ v, e = .returned v ∧ WhZ w' v z ∧ Below w.heap.size w w' := by
  obtain ⟨W0, hW0⟩ : ∃ W0, ((w.alloc (.cells #[.bool x, .slice A na ca] 26)).alloc (.cells #[.bool y, .slice B nb cb] 26)).alloc (.cells #[.bool false, .slice none 0 0] 26) = W0 := ⟨_, rfl⟩
  have b0 : Blk W0 w.heap.size 26 #[.bool x, .slice A na ca] := by rw [← hW0]; exact ((Blk.new w _ _).alloc _).alloc _
  have b1 : Blk W0 (w.heap.size + 1) 26 #[.bool y, .slice B nb cb] := by
    rw [← hW0]
    have := (Blk.new (w.alloc (.cells #[.bool x, .slice A na ca] 26)) 26 #[.bool y, .slice B nb cb]).alloc (.cells #[.bool false, .slice none 0 0] 26)
    rwa [World.size_alloc] at this
  have b2 : Blk W0 (w.heap.size + 2) 26 #[.bool false, .slice none 0 0] := by
    rw [← hW0]
    have := (Blk.new ((w.alloc (.cells #[.bool x, .slice A na ca] 26)).alloc (.cells #[.bool y, .slice B nb cb] 26)) 26 #[.bool false, .slice none 0 0])
    rwa [World.size_alloc, World.size_alloc] at this
  have bw : Below w.heap.size w W0 := by rw [← hW0]; exact (by repeat (first | exact Below.refl _ _ | assumption | refine Below.alloc ?_ (by first | (simp; done) | (simp; omega) | omega) _ | refine Below.setCell ?_ (by first | (simp; done) | (simp; omega) | omega) _ | refine Below.drew ?_))
  have HW : Hid (((w.alloc (.cells #[.bool x, .slice A na ca] 26)).alloc (.cells #[.bool y, .slice B nb cb] 26)).alloc (.cells #[.bool false, .slice none 0 0] 26) = W0) := hW0
  clear hW0
  have l2 := b2.lt
  go_enter Try.func37, Try.ntmps37
  go_wp2_with fail
  rw [HW.out]
  refine (H.out _ bw).mono ?_
  clear H
  rintro e w1 ⟨v, r, rfl, hz, hr, hb1⟩
  obtain ⟨n', A', c', Hn', rfl, hs⟩ := whz_len hz
  obtain ⟨n2, A2, c2, Hn2, rfl, hs2⟩ := whz_len hr
  obtain rfl : n2 = 0 := by have := Hn2.out; simp [digs_zero] at this; exact this.symm
  obtain ⟨bz, hbz⟩ : ∃ b, decide (z < 0) = b := ⟨_, rfl⟩
  have hz0 : decide ((0 : Int) < 0) = false := by decide
  rw [hbz] at hz ⊢
  rw [hz0] at hr ⊢
  clear hz0 hr hs2
  have HBZ : Hid (decide (z < 0) = bz) := hbz
  clear hbz
  have d2 := ((b2.below hb1 l2).alloc (.cells #[.bool bz, .slice A' n' c'] 26)).alloc (.cells #[.bool false, .slice A2 0 c2] 26)
  have m1 : Blk ((w1.alloc (.cells #[.bool bz, .slice A' n' c'] 26)).alloc (.cells #[.bool false, .slice A2 0 c2] 26)) w1.heap.size 26 #[.bool bz, .slice A' n' c'] := (Blk.new _ _ _).alloc _
  have m2 : Blk ((w1.alloc (.cells #[.bool bz, .slice A' n' c'] 26)).alloc (.cells #[.bool false, .slice A2 0 c2] 26)) (w1.heap.size + 1) 26 #[.bool false, .slice A2 0 c2] := by
    have := Blk.new (w1.alloc (.cells #[.bool bz, .slice A' n' c'] 26)) 26 #[.bool false, .slice A2 0 c2]
    rwa [World.size_alloc] at this
  have g0 := (m1.cell 0).trans (b := some (Value.bool bz)) rfl
  have g1 := (m1.cell 1).trans (b := some (Value.slice A' n' c')) rfl
  have g2 := (m2.cell 0).trans (b := some (Value.bool false)) rfl
  have g3 := (m2.cell 1).trans (b := some (Value.slice A2 0 c2)) rfl
  have g4 := (d2.cell 0).trans (b := some (Value.bool false)) rfl
  have g5 := (d2.cell 1).trans (b := some (Value.slice none 0 0)) rfl
  have h4 := d2.frozen 0
  have h5 := d2.frozen 1
  have l4 := d2.lt
  go_wp2
  have d4 := (d2.set_ 0 (.bool bz)).set_ 1 (.slice A' n' c')
  have r0 := (d4.cell 0).trans (b := some (Value.bool bz)) rfl
  have r1 := (d4.cell 1).trans (b := some (Value.slice A' n' c')) rfl
  have ba : Below w1.heap.size w1 ((w1.alloc (.cells #[.bool bz, .slice A' n' c'] 26)).alloc (.cells #[.bool false, .slice A2 0 c2] 26)) := ((Below.refl _ _).alloc (Nat.le_refl _) _).alloc (by simp) _
  have s5 := (hs.below ba).store2 d2 bz A' n' c'
  exact bodyPost_ret (v := .agg #[.bool bz, .slice A' n' c']) (by simp [results, Try.f37, Try.results37, go_sem, r0, r1]) rfl
    ⟨_, rfl, ⟨A', c', by rw [Hn'.out, HBZ.out], by rw [Hn'.out]; exact s5⟩, (((bw.trans (hb1.mono bw.size)).trans (ba.mono (Nat.le_trans bw.size hb1.size))).setCell (p := ⟨w.heap.size + 2, 0, none⟩) (by simp) _ |>.setCell (p := ⟨w.heap.size + 2, 1, none⟩) (by simp) _)⟩

theorem divv {w : World} {va vb : Value} {y z m : Int} (hA : WhZ w va y) (hB : WhZ w vb z) (hy : Lz 1024 y) (hz : Lz 1024 z) (h0 : z ≠ 0) (hm : m * z = y) :
    Calls Try.prog 37 #[va, vb] w fun e w' => ∃ v, e = .returned v ∧ WhZ w' v m ∧ Below w.heap.size w w' := by
  obtain ⟨A, ca, rfl, sa⟩ := id hA
  obtain ⟨B, cb, rfl, sb⟩ := id hB
  have hu := (dmod_qr y z h0).unique (show DMod y z m 0 from ⟨by omega, by omega⟩)
  refine divv_any (fun W hb => ?_)
  have := divmod_zz (hA.below hb) (hB.below hb) hy hz h0
  rw [hu.1, hu.2] at this
  exact this

/-- A number's absolute value, over the same limbs. -/
theorem whz_abs {w : World} {A : Option Addr} {n c : Nat} {x : Bool} {z : Int} (h : WhZ w (.agg #[.bool x, .slice A n c]) z) : WhZ w (.agg #[.bool false, .slice A n c]) (z.natAbs : Int) := by
  obtain ⟨A', c', e, hs⟩ := h
  injection e with e
  have e1 : (Value.bool x = .bool (decide (z < 0))) ∧ Value.slice A n c = .slice A' (digs z.natAbs).length c' := by
    have := congrArg Array.toList e
    simp only [List.cons.injEq, and_true] at this
    exact this
  obtain ⟨-, e2⟩ := e1
  injection e2 with e3 e4 e5
  subst e3 e4 e5
  exact ⟨A, c, by rw [Int.natAbs_natCast, show decide ((z.natAbs : Int) < 0) = false by simp], by rw [Int.natAbs_natCast]; exact hs⟩

/-- Facts on greatest common divisors. -/
theorem gcd_shift (p q t : Int) : Int.gcd (q + p * t) p = Int.gcd p q := by
  rw [Int.gcd_comm p q, Int.mul_comm]
  exact Int.gcd_add_mul_right_left ..
theorem gcd_scale (p q t : Int) : ((Int.gcd (p * t) (q * t) : Nat) : Int) = ((Int.gcd p q : Nat) : Int) * (t.natAbs : Int) := by
  rw [Int.gcd_mul_right, Int.natCast_mul]
theorem gcd_parts {p q : Int} (h : Int.gcd p q ≠ 0) : ∃ m n : Int, m * ((Int.gcd p q : Nat) : Int) = p ∧ n * ((Int.gcd p q : Nat) : Int) = q ∧ Int.gcd m n = 1 := by
  obtain ⟨m, hm⟩ := Int.gcd_dvd_left (a := p) (b := q)
  obtain ⟨n, hn⟩ := Int.gcd_dvd_right (a := p) (b := q)
  refine ⟨m, n, by rw [Int.mul_comm]; exact hm.symm, by rw [Int.mul_comm]; exact hn.symm, ?_⟩
  have e : Int.gcd (m * ((Int.gcd p q : Nat) : Int)) (n * ((Int.gcd p q : Nat) : Int)) = Int.gcd p q := by
    rw [Int.mul_comm m, Int.mul_comm n, ← hm, ← hn]
  rw [Int.gcd_mul_right, Int.natAbs_natCast] at e
  have : Int.gcd m n * Int.gcd p q = 1 * Int.gcd p q := by omega
  exact Nat.eq_of_mul_eq_mul_right (Nat.pos_of_ne_zero h) this
end Go.Proofs.Ytgnidjhfiagfnaa
