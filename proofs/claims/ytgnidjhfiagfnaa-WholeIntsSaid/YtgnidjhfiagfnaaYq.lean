/- WholeInts' function returns true. Conditions: none. -/
import Derived.Test.YtgnidjhfiagfnaaXn
import Derived.Test.YtgnidjhfiagfnaaXq
import Derived.Test.YtgnidjhfiagfnaaYj
import Derived.Test.YtgnidjhfiagfnaaYk
import Derived.Deep.RegionHeld3
import Derived.Deep.CutRange
namespace Go.Proofs.Ytgnidjhfiagfnaa
open Go.RowKit

theorem valid_l {w : World} {v : Value} {z : Int} (h : WhZ w v z) (hz : Lz 1024 z) : Calls Try.prog 20 #[v] w fun e w' => e = .returned (.bool true) ∧ Below w.heap.size w w' := by
  obtain ⟨A, c, rfl, hs⟩ := h
  have := valid_wh (wh_of_sl (x := decide (z < 0)) hs rfl)
  rwa [hz.ok (Nat.le_refl _)] at this

theorem ints_mod (m : Int) : -2147483648 < m.tmod 2147483648 ∧ m.tmod 2147483648 < 2147483648 := by
  have h1 := Int.tmod_lt_of_pos m (show (0 : Int) < 2147483648 by omega)
  have h2 := Int.tmod_lt_of_pos (-m) (show (0 : Int) < 2147483648 by omega)
  rw [Int.neg_tmod] at h2
  omega

theorem ints_rem {a b : Int} (hb : b ≠ 0) : b * a.tdiv b + a.tmod b = a ∧ (a.tmod b).natAbs < b.natAbs := by
  refine ⟨Int.mul_tdiv_add_tmod a b, ?_⟩
  rw [Int.natAbs_tmod]
  exact Nat.mod_lt _ (by omega)

/-- The quotient and the rest that the law expects. -/
theorem ints_dmod {a b R k : Int} (hb : b ≠ 0) (h : b * k + R = a) (hs : (0 < b ∧ 0 ≤ R ∧ R < b) ∨ (b < 0 ∧ b < R ∧ R ≤ 0)) :
    (a - R).tdiv b = k ∧ DMod a b k R := by
  have e : a - R = b * k := by omega
  exact ⟨by rw [e, Int.mul_tdiv_cancel_left _ hb], by rw [Int.mul_comm]; exact h, hs⟩

theorem quot_small {a b k R : Int} (hb : b ≠ 0) (h : b * k + R = a) (ha : a.natAbs < 2147483648) (hR : R.natAbs < 2147483648) : k.natAbs < 4294967296 := by
  have e : (b * k).natAbs < 4294967296 := by omega
  rw [Int.natAbs_mul] at e
  have : 1 * k.natAbs ≤ b.natAbs * k.natAbs := Nat.mul_le_mul_right _ (by omega)
  omega

theorem prod_small {a b : Int} (ha : a.natAbs < 2147483648) (hb : b.natAbs < 2147483648) : (a * b).natAbs < 4611686018427387904 := by
  rw [Int.natAbs_mul]
  have : a.natAbs * b.natAbs ≤ 2147483647 * 2147483647 := Nat.mul_le_mul (by omega) (by omega)
  omega

theorem num_wq {n k : Int} (h : n = k) (w : World) (h0 : -9223372036854775808 ≤ k) (h1 : k ≤ 9223372036854775807) :
    Calls Try.prog 25 #[.int .i64 n] w fun e w' => ∃ v, e = .returned v ∧ WhZ w' v k ∧ Below w.heap.size w w' := by
  rw [h]; exact num_wh k w h0 h1

set_option maxRecDepth 100000 in
set_option maxHeartbeats 20000000 in
theorem ints_any (m n : Int) (w : World) (m0 : -9223372036854775808 ≤ m) (m1 : m ≤ 9223372036854775807) (n0 : -9223372036854775808 ≤ n) (n1 : n ≤ 9223372036854775807) :
    Calls Try.prog 10 #[.int .i64 m, .int .i64 n] w fun e w' => e = .returned (.bool true) ∧ Below w.heap.size w w' := by
  have hm : Hid (Lz 1024 m) := (lz_four (by omega)).mono (by omega)
  have hn : Hid (Lz 1024 n) := (lz_four (by omega)).mono (by omega)
  obtain ⟨o, ho⟩ : ∃ o, cmpZ m n = o := ⟨_, rfl⟩
  have ho2 : (m < n ∧ ¬ n < m ∧ o = -1) ∨ (¬ m < n ∧ n < m ∧ o = 1) ∨ (¬ m < n ∧ ¬ n < m ∧ o = 0) := by
    rw [← ho]; unfold cmpZ
    by_cases h1 : m < n
    · exact Or.inl ⟨h1, by omega, by rw [if_pos h1]⟩
    · by_cases h2 : n < m
      · exact Or.inr (Or.inl ⟨h1, h2, by rw [if_neg h1, if_pos h2]⟩)
      · exact Or.inr (Or.inr ⟨h1, h2, by rw [if_neg h1, if_neg h2]⟩)
  obtain ⟨o1, ho1⟩ : ∃ o1 : Int, (m < n → o1 = -1) ∧ (n ≤ m → o1 = 0) := by
    by_cases h : m < n
    · exact ⟨-1, fun _ => rfl, fun h1 => absurd h (by omega)⟩
    · exact ⟨0, fun h1 => absurd h1 h, fun _ => rfl⟩
  have HO1 : Hid (((m < n → o1 = -1) ∧ (n ≤ m → o1 = 0)) ∧ ((m < n ∧ ¬ n < m ∧ o = -1) ∨ (¬ m < n ∧ n < m ∧ o = 1) ∨ (¬ m < n ∧ ¬ n < m ∧ o = 0))) := ⟨ho1, ho2⟩
  clear ho1 ho2
  have HO : Hid (cmpZ m n = o) := ho
  clear ho
  obtain ⟨a, ha⟩ : ∃ a, m.tmod 2147483648 = a := ⟨_, rfl⟩
  obtain ⟨b, hb⟩ : ∃ b, n.tmod 2147483648 = b := ⟨_, rfl⟩
  have ⟨a1, a2⟩ := ints_mod m
  have ⟨b1, b2⟩ := ints_mod n
  rw [ha] at a1 a2
  rw [hb] at b1 b2
  obtain ⟨P, hP⟩ : ∃ P, a * b = P := ⟨_, rfl⟩
  have hp := prod_small (a := a) (b := b) (by omega) (by omega)
  rw [hP] at hp
  have p1 : -4611686018427387904 < P := by omega
  have p2 : P < 4611686018427387904 := by omega
  have ka : Hid (Lz 1024 a) := (lz_four (by omega)).mono (by omega)
  have kb : Hid (Lz 1024 b) := (lz_four (by omega)).mono (by omega)
  have ks : Hid (Lz 1024 (a + b)) := (lz_four (by omega)).mono (by omega)
  have kd : Hid (Lz 1024 (a - b)) := (lz_four (by omega)).mono (by omega)
  have kp : Hid (Lz 1024 P) := (lz_four (by omega)).mono (by omega)
  have kp0 : Hid (Lz 1024 (a * b)) := by show Lz _ _; rw [hP]; exact kp.out
  have HP : Hid (a * b = P) := hP
  clear hp
  go_enter Try.func10, Try.ntmps10
  go_wp2_with fail
  refine (awake_any _).mono ?_
  rintro e u1 ⟨rfl, h1⟩
  go_wp2_with fail
  refine (num_wh m _ (by omega) (by omega)).mono ?_
  rintro e u2 ⟨v, rfl, z, h2⟩
  replace h1 := h1.trans (h2.mono h1.size)
  clear h2
  go_wp2_with fail
  refine (int_z z hm.out (by omega) (by omega)).mono ?_
  rintro e u3 ⟨rfl, h3⟩
  replace h1 := h1.trans (h3.mono h1.size)
  clear h3 z
  go_upto_if 24 with fail
  go_cut [7] from 25 (fun s7 wx => s7 = .int .i64 o1 ∧ wx = u3)
  case first =>
    by_cases h : m < n
    · have e := HO1.out.1.1 h
      go_wp2
      go_meet
      exact ⟨by first | rfl | rw [e], rfl⟩
    · have e := HO1.out.1.2 (by omega)
      go_wp2
      go_meet
      exact ⟨by first | rfl | rw [e], rfl⟩
  case rest =>
  obtain ⟨rfl, rfl⟩ := hcut
  go_upto_if 27 with fail
  go_cut [7] from 28 (fun s7 wx => s7 = .int .i64 o ∧ wx = wc)
  case first =>
    by_cases h : n < m
    · have e : o = 1 := by have := HO1.out.2; omega
      go_wp2
      go_meet
      exact ⟨by first | rfl | rw [e], rfl⟩
    · have e : o1 = o := by
        have h1 := HO1.out.1
        have h2 := HO1.out.2
        by_cases h3 : m < n
        · have := h1.1 h3; omega
        · have := h1.2 (by omega); omega
      go_wp2
      go_meet
      exact ⟨by first | rfl | rw [e], rfl⟩
  case rest =>
  obtain ⟨rfl, rfl⟩ := hcut
  go_wp2_with fail
  refine (num_wh m _ (by omega) (by omega)).mono ?_
  rintro e u4 ⟨v, rfl, z, h2⟩
  replace h1 := h1.trans (h2.mono h1.size)
  clear h2
  go_wp2_with fail
  refine (valid_l z hm.out).mono ?_
  rintro e u5 ⟨rfl, h3⟩
  replace h1 := h1.trans (h3.mono h1.size)
  clear h3 z
  go_wp2_with fail
  refine (num_wh m _ (by omega) (by omega)).mono ?_
  rintro e u6 ⟨v1, rfl, z1, h2⟩
  replace h1 := h1.trans (h2.mono h1.size)
  clear h2
  go_wp2_with fail
  refine (num_wh n _ (by omega) (by omega)).mono ?_
  rintro e u7 ⟨v2, rfl, z2, h2⟩
  replace h1 := h1.trans (h2.mono h1.size)
  replace z1 := z1.below h2
  clear h2
  go_wp2_with fail
  refine (cmp_l z1 z2 hm.out hn.out HO.out).mono ?_
  rintro e u8 ⟨rfl, h2⟩
  replace h1 := h1.trans (h2.mono h1.size)
  clear h2 z1 z2
  clear HO
  go_wp2_with fail
  refine (num_wh (a) _ (by omega) (by omega)).mono ?_
  rintro e u ⟨vza, rfl, za, h2⟩
  replace h1 := h1.trans (h2.mono h1.size)
  clear h2
  go_wp2_with fail
  refine (num_wh (b) _ (by omega) (by omega)).mono ?_
  rintro e u ⟨vzb, rfl, zb, h2⟩
  replace h1 := h1.trans (h2.mono h1.size)
  replace za := za.below h2
  clear h2
  go_wp2_with fail
  refine (sumv za zb ka.out kb.out ks.out).mono ?_
  rintro e u ⟨vzc, rfl, zc, h2⟩
  replace h1 := h1.trans (h2.mono h1.size)
  clear h2 za zb
  go_wp2_with fail
  refine (num_wh (a + b) _ (by omega) (by omega)).mono ?_
  rintro e u ⟨vzd, rfl, zd, h2⟩
  replace h1 := h1.trans (h2.mono h1.size)
  replace zc := zc.below h2
  clear h2
  go_wp2_with fail
  refine (equal_l zc zd ks.out ks.out rfl).mono ?_
  rintro e u ⟨rfl, h2⟩
  replace h1 := h1.trans (h2.mono h1.size)
  clear h2 zc zd
  go_wp2_with fail
  refine (num_wh (a) _ (by omega) (by omega)).mono ?_
  rintro e u ⟨vza, rfl, za, h2⟩
  replace h1 := h1.trans (h2.mono h1.size)
  clear h2
  go_wp2_with fail
  refine (num_wh (b) _ (by omega) (by omega)).mono ?_
  rintro e u ⟨vzb, rfl, zb, h2⟩
  replace h1 := h1.trans (h2.mono h1.size)
  replace za := za.below h2
  clear h2
  go_wp2_with fail
  refine (prodv za zb ka.out kb.out kp0.out).mono ?_
  rintro e u ⟨vzc, rfl, zc, h2⟩
  replace h1 := h1.trans (h2.mono h1.size)
  clear h2 za zb
  rw [HP.out] at zc
  go_wp2_with fail
  refine (num_wh (P) _ (by omega) (by omega)).mono ?_
  rintro e u ⟨vzd, rfl, zd, h2⟩
  replace h1 := h1.trans (h2.mono h1.size)
  replace zc := zc.below h2
  clear h2
  go_wp2_with fail
  refine (equal_l zc zd kp.out kp.out rfl).mono ?_
  rintro e u ⟨rfl, h2⟩
  replace h1 := h1.trans (h2.mono h1.size)
  clear h2 zc zd
  go_wp2_with fail
  refine (num_wh (a) _ (by omega) (by omega)).mono ?_
  rintro e u ⟨vza, rfl, za, h2⟩
  replace h1 := h1.trans (h2.mono h1.size)
  clear h2
  go_wp2_with fail
  refine (num_wh (b) _ (by omega) (by omega)).mono ?_
  rintro e u ⟨vzb, rfl, zb, h2⟩
  replace h1 := h1.trans (h2.mono h1.size)
  replace za := za.below h2
  clear h2
  go_wp2_with fail
  refine (lessv za zb ka.out kb.out kd.out).mono ?_
  rintro e u ⟨vzc, rfl, zc, h2⟩
  replace h1 := h1.trans (h2.mono h1.size)
  clear h2 za zb
  go_wp2_with fail
  refine (num_wh (a - b) _ (by omega) (by omega)).mono ?_
  rintro e u ⟨vzd, rfl, zd, h2⟩
  replace h1 := h1.trans (h2.mono h1.size)
  replace zc := zc.below h2
  clear h2
  go_wp2_with fail
  refine (equal_l zc zd kd.out kd.out rfl).mono ?_
  rintro e u ⟨rfl, h2⟩
  replace h1 := h1.trans (h2.mono h1.size)
  clear h2 zc zd
  by_cases b0 : b = 0
  · have b0' : b = 0 := b0
    go_wp2
    all_goals (go_ret; exact ⟨rfl, h1⟩)
  · obtain ⟨t, ht⟩ : ∃ t, a.tmod b = t := ⟨_, rfl⟩
    obtain ⟨k, hk⟩ : ∃ k, a.tdiv b = k := ⟨_, rfl⟩
    have hr := ints_rem (a := a) b0
    rw [ht, hk] at hr
    clear hk
    have hcase : ∃ R KQ, b * KQ + R = a ∧ R.natAbs < 2147483648 ∧ ((0 < b ∧ 0 ≤ R ∧ R < b) ∨ (b < 0 ∧ b < R ∧ R ≤ 0)) ∧
        ((R = t ∧ (t = 0 ∨ (0 < t ∧ 0 < b) ∨ (t < 0 ∧ b < 0))) ∨ (R = t + b ∧ ((0 < t ∧ b < 0) ∨ (t < 0 ∧ 0 < b)))) := by
      by_cases t0 : t = 0 ∨ (0 < t ∧ 0 < b) ∨ (t < 0 ∧ b < 0)
      · exact ⟨t, k, hr.1, by omega, by omega, Or.inl ⟨rfl, t0⟩⟩
      · exact ⟨t + b, k - 1, by rw [Int.mul_sub]; omega, by omega, by omega, Or.inr ⟨rfl, by omega⟩⟩
    obtain ⟨R, KQ, q1, q3, q4, q5⟩ := hcase
    obtain ⟨hQ, hdm⟩ := ints_dmod b0 q1 q4
    have hQ' := quot_small b0 q1 (by omega) q3
    have hun := (dmod_qr a b b0).unique hdm
    have HU : Hid (qz a b = KQ ∧ rz a b = R) := hun
    clear hun hdm
    have kR : Hid (Lz 1024 R) := (lz_four (by omega)).mono (by omega)
    have kK : Hid (Lz 1024 KQ) := (lz_four (by omega)).mono (by omega)
    have r1 : -2147483648 < R := by omega
    have r2 : R < 2147483648 := by omega
    have k1 : -4294967296 < KQ := by omega
    have k2 : KQ < 4294967296 := by omega
    have t1 : -2147483648 < t := by omega
    have t2 : t < 2147483648 := by omega
    have HR : Hid ((R = t ∧ (t = 0 ∨ (0 < t ∧ 0 < b) ∨ (t < 0 ∧ b < 0))) ∨ (R = t + b ∧ ((0 < t ∧ b < 0) ∨ (t < 0 ∧ 0 < b)))) := q5
    have HQ : Hid ((a - R).tdiv b = KQ) := hQ
    clear hQ' q3 q1 hr q4 q5 hQ
    go_upto_region 17 with fail
    go_cut [104] from 96 (fun s104 wx => s104 = .bool (decide (R ≠ t)) ∧ wx = u)
    case first =>
      rcases HR.out with ⟨q5, q6⟩ | ⟨q5, q6⟩
      · have eb : decide (R ≠ t) = false := by simp; exact q5
        rcases q6 with q6 | ⟨q6, q7⟩ | ⟨q6, q7⟩
        all_goals (
          try have e0 : (t != 0) = true := by (simp; omega)
          try have e0 : (t != 0) = false := by (simp; omega)
          try have e1 : decide (t < 0) = true := by (simp; omega)
          try have e1 : decide (t < 0) = false := by (simp; omega)
          try have e2 : decide (b < 0) = true := by (simp; omega)
          try have e2 : decide (b < 0) = false := by (simp; omega)
          go_wp2
          go_meet
          exact ⟨by rw [eb], rfl⟩)
      · have eb : decide (R ≠ t) = true := by simp; omega
        rcases q6 with ⟨q6, q7⟩ | ⟨q6, q7⟩
        all_goals (
          have e0 : (t != 0) = true := by (simp; omega)
          try have e1 : decide (t < 0) = true := by (simp; omega)
          try have e1 : decide (t < 0) = false := by (simp; omega)
          try have e2 : decide (b < 0) = true := by (simp; omega)
          try have e2 : decide (b < 0) = false := by (simp; omega)
          go_wp2
          go_meet
          exact ⟨by rw [eb], rfl⟩)
    case rest =>
    obtain ⟨rfl, rfl⟩ := hcut
    go_upto_if 104 with fail
    go_cut [10] from 105 (fun s10 wx => s10 = .int .i64 R ∧ wx = wc)
    case first =>
      by_cases h : R = t
      · have eb : decide (R ≠ t) = false := by simp; exact h
        go_wp2
        go_meet
        exact ⟨by first | rfl | rw [h], rfl⟩
      · have eb : decide (R ≠ t) = true := by simp; exact h
        have hr : t + b = R := by rcases HR.out with ⟨q5, q6⟩ | ⟨q5, q6⟩ <;> omega
        go_wp2
        go_meet
        exact ⟨by first | rfl | rw [hr], rfl⟩
    case rest =>
    obtain ⟨rfl, rfl⟩ := hcut
    have hW : IntKind.i64.wrap ((IntKind.i64.wrap (a - R)).tdiv b) = KQ := by rw [IntWalk.i64_in (a - R) (by omega), HQ.out, IntWalk.i64_in _ (by omega)]
    have HWq : Hid (_ = _) := hW
    clear hW
    have hQ := HQ.out
    go_wp2_with fail
    refine (num_wh a _ (by omega) (by omega)).mono ?_
    rintro e u ⟨va, rfl, za, h2⟩
    replace h1 := h1.trans (h2.mono h1.size)
    clear h2
    go_wp2_with fail
    refine (num_wh b _ (by omega) (by omega)).mono ?_
    rintro e u ⟨vb, rfl, zb, h2⟩
    replace h1 := h1.trans (h2.mono h1.size)
    replace za := za.below h2
    clear h2
    go_wp2_with fail
    refine (divmod_zz za zb ka.out kb.out b0).mono ?_
    rintro e u ⟨vq, vr, rfl, zq, zr, h2⟩
    replace h1 := h1.trans (h2.mono h1.size)
    rw [HU.out.1] at zq
    rw [HU.out.2] at zr
    clear h2 za zb
    obtain ⟨nQ, QA, cQ, HnQ, rfl, hsQ⟩ := whz_len zq
    obtain ⟨nR, RA, cR, HnR, rfl, hsR⟩ := whz_len zr
    clear hsQ hsR
    obtain ⟨bR, hbR⟩ : ∃ x, decide (R < 0) = x := ⟨_, rfl⟩
    obtain ⟨bK, hbK⟩ : ∃ x, decide (KQ < 0) = x := ⟨_, rfl⟩
    rw [hbR] at zr ⊢
    rw [hbK] at zq ⊢
    clear hbR hbK
    try clear e0
    try clear e1
    try clear e2
    have hal : Below u.heap.size u ((u.alloc (.cells #[.bool bK, .slice QA nQ cQ] 26)).alloc (.cells #[.bool bR, .slice RA nR cR] 26)) := ((Below.refl _ _).alloc (Nat.le_refl _) _).alloc (by simp) _
    have bq : Blk ((u.alloc (.cells #[.bool bK, .slice QA nQ cQ] 26)).alloc (.cells #[.bool bR, .slice RA nR cR] 26)) u.heap.size 26 #[.bool bK, .slice QA nQ cQ] := (Blk.new _ _ _).alloc _
    have br : Blk ((u.alloc (.cells #[.bool bK, .slice QA nQ cQ] 26)).alloc (.cells #[.bool bR, .slice RA nR cR] 26)) (u.heap.size + 1) 26 #[.bool bR, .slice RA nR cR] := by
      have := Blk.new (u.alloc (.cells #[.bool bK, .slice QA nQ cQ] 26)) 26 #[.bool bR, .slice RA nR cR]
      rwa [World.size_alloc] at this
    have ch0 := h1.trans (hal.mono h1.size)
    replace zq := zq.below hal
    replace zr := zr.below hal
    have bq0 := bq
    have br0 := br
    clear bq br hal
    go_wp2_with fail
    have kk0 := And.intro (And.intro ((bq0.cell 0).trans (b := some (Value.bool bK)) rfl) ((bq0.cell 1).trans (b := some (Value.slice QA nQ cQ)) rfl)) (And.intro ((br0.cell 0).trans (b := some (Value.bool bR)) rfl) ((br0.cell 1).trans (b := some (Value.slice RA nR cR)) rfl))
    have bq := bq0
    have br := br0
    clear bq0 br0 kk0
    replace bq := bq.drew
    replace br := br.drew
    replace zq := whz_drew zq
    replace zr := whz_drew zr
    have ch_101_0 := ch0.drew
    clear ch0
    have kk_101_0 := cells4 bq br
    refine wp_region_held_drew (S := fun w' => w'.cell? ⟨u.heap.size, 0, none⟩ = some (.bool bK) ∧ w'.cell? ⟨u.heap.size, 1, none⟩ = some (.slice QA nQ cQ) ∧ w'.cell? ⟨(u.heap.size + 1), 0, none⟩ = some (.bool bR) ∧ w'.cell? ⟨(u.heap.size + 1), 1, none⟩ = some (.slice RA nR cR)) (by kernel_rfl) kk_101_0 (fun hH => ?_)
    clear kk_101_0
    refine wpAnyH_take (i := 0) (v := ?_) rfl (by kernel_rfl) (by kernel_rfl) (by kernel_rfl) (fun _ _ _ h => h) (Or.inl ⟨by rfl, ?_⟩) (by assumption) ?_
    rotate_left
    · intro w' hSw
      (try dsimp only at hSw)
      obtain ⟨q0, q1, q2, q3⟩ := hSw
      go_simp
      try with_reducible rfl
    (try simp only [List.getElem_toArray, List.getElem_cons_zero, List.getElem_cons_succ, Act.put, List.setIfInBounds_toArray, List.set_cons_zero, List.set_cons_succ])
    refine wpAnyH_take (i := 1) (v := ?_) rfl (by kernel_rfl) (by kernel_rfl) (by kernel_rfl) (fun _ _ _ h => h) (Or.inl ⟨by rfl, ?_⟩) (by assumption) ?_
    rotate_left
    · intro w' hSw
      (try dsimp only at hSw)
      obtain ⟨q0, q1, q2, q3⟩ := hSw
      go_simp
      try with_reducible rfl
    (try simp only [List.getElem_toArray, List.getElem_cons_zero, List.getElem_cons_succ, Act.put, List.setIfInBounds_toArray, List.set_cons_zero, List.set_cons_succ])
    refine wpAnyH_take (i := 2) (v := ?_) rfl (by kernel_rfl) (by kernel_rfl) (by kernel_rfl) (fun _ _ _ h => h) (Or.inl ⟨by rfl, ?_⟩) (by assumption) ?_
    rotate_left
    · intro w' hSw
      (try dsimp only at hSw)
      obtain ⟨q0, q1, q2, q3⟩ := hSw
      go_simp
      try with_reducible rfl
    (try simp only [List.getElem_toArray, List.getElem_cons_zero, List.getElem_cons_succ, Act.put, List.setIfInBounds_toArray, List.set_cons_zero, List.set_cons_succ])
    refine wpAnyH_take (i := 3) (v := ?_) rfl (by kernel_rfl) (by kernel_rfl) (by kernel_rfl) (fun _ _ _ h => h) (Or.inl ⟨by rfl, ?_⟩) (by assumption) ?_
    rotate_left
    · intro w' hSw
      (try dsimp only at hSw)
      obtain ⟨q0, q1, q2, q3⟩ := hSw
      go_simp
      try with_reducible rfl
    (try simp only [List.getElem_toArray, List.getElem_cons_zero, List.getElem_cons_succ, Act.put, List.setIfInBounds_toArray, List.set_cons_zero, List.set_cons_succ])
    refine wpAnyH_take (i := 4) (v := ?_) rfl (by kernel_rfl) (by kernel_rfl) (by kernel_rfl) (fun _ _ _ h => h) (Or.inl ⟨by rfl, ?_⟩) (by assumption) ?_
    rotate_left
    · intro w' hSw
      (try dsimp only at hSw)
      obtain ⟨q0, q1, q2, q3⟩ := hSw
      go_simp
      try with_reducible rfl
    (try simp only [List.getElem_toArray, List.getElem_cons_zero, List.getElem_cons_succ, Act.put, List.setIfInBounds_toArray, List.set_cons_zero, List.set_cons_succ])
    refine wpAnyH_ready (rs := [5]) (by kernel_rfl) (by simp) ?_
    refine AllReadyH.cons rfl (fun K hK => ?_) AllReadyH.nil
    go_simp
    refine (num_wh R _ (by omega) (by omega)).mono ?_
    rintro e w_101_1 ⟨vzn, rfl, zn, hb_101_1⟩
    replace bq := bq.below hb_101_1 bq.lt
    replace br := br.below hb_101_1 br.lt
    replace zq := zq.below hb_101_1
    replace zr := zr.below hb_101_1
    have ch_101_1 := ch_101_0.trans (hb_101_1.mono ch_101_0.size)
    refine hK.out _ _ (cells4 bq br) (fun hH1 => ?_)
    clear hK K ch_101_0 hb_101_1 hH
    have hH := hH1
    clear hH1
    (try simp only [List.getElem_toArray, List.getElem_cons_zero, List.getElem_cons_succ, Act.put, List.setIfInBounds_toArray, List.set_cons_zero, List.set_cons_succ])
    refine wpAnyH_ready (rs := [6]) (by kernel_rfl) (by simp) ?_
    refine AllReadyH.cons rfl (fun K hK => ?_) AllReadyH.nil
    go_simp
    refine (equal_l zr zn kR.out kR.out rfl).mono ?_
    rintro e w_101_2 ⟨rfl, hb_101_2⟩
    replace bq := bq.below hb_101_2 bq.lt
    replace br := br.below hb_101_2 br.lt
    replace zq := zq.below hb_101_2
    replace zr := zr.below hb_101_2
    clear zn
    have ch_101_2 := ch_101_1.trans (hb_101_2.mono ch_101_1.size)
    refine hK.out _ _ (cells4 bq br) (fun hH2 => ?_)
    clear hK K ch_101_1 hb_101_2 hH
    have hH := hH2
    clear hH2
    (try simp only [List.getElem_toArray, List.getElem_cons_zero, List.getElem_cons_succ, Act.put, List.setIfInBounds_toArray, List.set_cons_zero, List.set_cons_succ])
    refine wpAnyH_take (i := 7) (v := ?_) rfl (by kernel_rfl) (by kernel_rfl) (by kernel_rfl) (fun _ _ _ h => h) (Or.inl ⟨by rfl, ?_⟩) (by assumption) ?_
    rotate_left
    · intro w' hSw
      (try dsimp only at hSw)
      obtain ⟨q0, q1, q2, q3⟩ := hSw
      go_simp
      try with_reducible rfl
    (try simp only [List.getElem_toArray, List.getElem_cons_zero, List.getElem_cons_succ, Act.put, List.setIfInBounds_toArray, List.set_cons_zero, List.set_cons_succ])
    refine wpAnyH_take (i := 8) (v := ?_) rfl (by kernel_rfl) (by kernel_rfl) (by kernel_rfl) (fun _ _ _ h => h) (Or.inl ⟨by rfl, ?_⟩) (by assumption) ?_
    rotate_left
    · intro w' hSw
      (try dsimp only at hSw)
      obtain ⟨q0, q1, q2, q3⟩ := hSw
      go_simp
      try with_reducible rfl
    (try simp only [List.getElem_toArray, List.getElem_cons_zero, List.getElem_cons_succ, Act.put, List.setIfInBounds_toArray, List.set_cons_zero, List.set_cons_succ])
    refine wpAnyH_take (i := 9) (v := ?_) rfl (by kernel_rfl) (by kernel_rfl) (by kernel_rfl) (fun _ _ _ h => h) (Or.inl ⟨by rfl, ?_⟩) (by assumption) ?_
    rotate_left
    · intro w' hSw
      (try dsimp only at hSw)
      obtain ⟨q0, q1, q2, q3⟩ := hSw
      go_simp
      try with_reducible rfl
    (try simp only [List.getElem_toArray, List.getElem_cons_zero, List.getElem_cons_succ, Act.put, List.setIfInBounds_toArray, List.set_cons_zero, List.set_cons_succ])
    refine wpAnyH_take (i := 10) (v := ?_) rfl (by kernel_rfl) (by kernel_rfl) (by kernel_rfl) (fun _ _ _ h => h) (Or.inl ⟨by rfl, ?_⟩) (by assumption) ?_
    rotate_left
    · intro w' hSw
      (try dsimp only at hSw)
      obtain ⟨q0, q1, q2, q3⟩ := hSw
      go_simp
      try with_reducible rfl
    (try simp only [List.getElem_toArray, List.getElem_cons_zero, List.getElem_cons_succ, Act.put, List.setIfInBounds_toArray, List.set_cons_zero, List.set_cons_succ])
    refine wpAnyH_take (i := 11) (v := ?_) rfl (by kernel_rfl) (by kernel_rfl) (by kernel_rfl) (fun _ _ _ h => h) (Or.inl ⟨by rfl, ?_⟩) (by assumption) ?_
    rotate_left
    · intro w' hSw
      (try dsimp only at hSw)
      obtain ⟨q0, q1, q2, q3⟩ := hSw
      go_simp
      try with_reducible rfl
    (try simp only [List.getElem_toArray, List.getElem_cons_zero, List.getElem_cons_succ, Act.put, List.setIfInBounds_toArray, List.set_cons_zero, List.set_cons_succ])
    refine wpAnyH_take (i := 12) (v := ?_) rfl (by kernel_rfl) (by kernel_rfl) (by kernel_rfl) (fun _ _ _ h => h) (Or.inl ⟨by rfl, ?_⟩) (by assumption) ?_
    rotate_left
    · intro w' hSw
      (try dsimp only at hSw)
      obtain ⟨q0, q1, q2, q3⟩ := hSw
      go_simp
      try with_reducible rfl
    (try simp only [List.getElem_toArray, List.getElem_cons_zero, List.getElem_cons_succ, Act.put, List.setIfInBounds_toArray, List.set_cons_zero, List.set_cons_succ])
    refine wpAnyH_take (i := 13) (v := ?_) rfl (by kernel_rfl) (by kernel_rfl) (by kernel_rfl) (fun _ _ _ h => h) (Or.inl ⟨by rfl, ?_⟩) (by assumption) ?_
    rotate_left
    · intro w' hSw
      (try dsimp only at hSw)
      obtain ⟨q0, q1, q2, q3⟩ := hSw
      go_simp
      try with_reducible rfl
    (try simp only [List.getElem_toArray, List.getElem_cons_zero, List.getElem_cons_succ, Act.put, List.setIfInBounds_toArray, List.set_cons_zero, List.set_cons_succ])
    refine wpAnyH_take (i := 14) (v := ?_) rfl (by kernel_rfl) (by kernel_rfl) (by kernel_rfl) (fun _ _ _ h => h) (Or.inl ⟨by rfl, ?_⟩) (by assumption) ?_
    rotate_left
    · intro w' hSw
      (try dsimp only at hSw)
      obtain ⟨q0, q1, q2, q3⟩ := hSw
      go_simp
      try with_reducible rfl
    (try simp only [List.getElem_toArray, List.getElem_cons_zero, List.getElem_cons_succ, Act.put, List.setIfInBounds_toArray, List.set_cons_zero, List.set_cons_succ])
    refine wpAnyH_ready (rs := [15]) (by kernel_rfl) (by simp) ?_
    refine AllReadyH.cons rfl (fun K hK => ?_) AllReadyH.nil
    go_simp
    refine (num_wq HWq.out _ (by omega) (by omega)).mono ?_
    rintro e w_101_3 ⟨vzm, rfl, zm, hb_101_3⟩
    replace bq := bq.below hb_101_3 bq.lt
    replace br := br.below hb_101_3 br.lt
    replace zq := zq.below hb_101_3
    replace zr := zr.below hb_101_3
    have ch_101_3 := ch_101_2.trans (hb_101_3.mono ch_101_2.size)
    refine hK.out _ _ (cells4 bq br) (fun hH3 => ?_)
    clear hK K ch_101_2 hb_101_3 hH
    have hH := hH3
    clear hH3
    (try simp only [List.getElem_toArray, List.getElem_cons_zero, List.getElem_cons_succ, Act.put, List.setIfInBounds_toArray, List.set_cons_zero, List.set_cons_succ])
    refine wpAnyH_ready (rs := [16]) (by kernel_rfl) (by simp) ?_
    refine AllReadyH.cons rfl (fun K hK => ?_) AllReadyH.nil
    go_simp
    refine (equal_l zq zm kK.out kK.out rfl).mono ?_
    rintro e w_101_4 ⟨rfl, hb_101_4⟩
    replace bq := bq.below hb_101_4 bq.lt
    replace br := br.below hb_101_4 br.lt
    replace zq := zq.below hb_101_4
    replace zr := zr.below hb_101_4
    clear zm
    have ch_101_4 := ch_101_3.trans (hb_101_4.mono ch_101_3.size)
    refine hK.out _ _ (cells4 bq br) (fun hH4 => ?_)
    clear hK K ch_101_3 hb_101_4 hH
    have hH := hH4
    clear hH4
    (try simp only [List.getElem_toArray, List.getElem_cons_zero, List.getElem_cons_succ, Act.put, List.setIfInBounds_toArray, List.set_cons_zero, List.set_cons_succ])
    refine wpAnyH_take (i := 17) (v := ?_) rfl (by kernel_rfl) (by kernel_rfl) (by kernel_rfl) (fun _ _ _ h => h) (Or.inl ⟨by rfl, ?_⟩) (by assumption) ?_
    rotate_left
    · intro w' hSw
      (try dsimp only at hSw)
      obtain ⟨q0, q1, q2, q3⟩ := hSw
      go_simp
      try with_reducible rfl
    (try simp only [List.getElem_toArray, List.getElem_cons_zero, List.getElem_cons_succ, Act.put, List.setIfInBounds_toArray, List.set_cons_zero, List.set_cons_succ])
    refine wpAnyH_take (i := 18) (v := ?_) rfl (by kernel_rfl) (by kernel_rfl) (by kernel_rfl) (fun _ _ _ h => h) (Or.inl ⟨by rfl, ?_⟩) (by assumption) ?_
    rotate_left
    · intro w' hSw
      (try dsimp only at hSw)
      obtain ⟨q0, q1, q2, q3⟩ := hSw
      go_simp
      try with_reducible rfl
    (try simp only [List.getElem_toArray, List.getElem_cons_zero, List.getElem_cons_succ, Act.put, List.setIfInBounds_toArray, List.set_cons_zero, List.set_cons_succ])
    refine wpAnyH_done (by kernel_rfl) ?_ _
    clear hH
    have ch51 := ch_101_4
    clear ch_101_4
    go_wp2
    go_ret
    exact ⟨rfl, ch51⟩
end Go.Proofs.Ytgnidjhfiagfnaa
