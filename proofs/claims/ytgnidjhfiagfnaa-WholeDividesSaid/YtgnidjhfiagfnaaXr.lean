/- WholeEnds' function returns true. Conditions: none. -/
import Derived.Test.YtgnidjhfiagfnaaXq
import Derived.Test.YtgnidjhfiagfnaaXn
import Derived.Deep.RegionHeld3
import Derived.Deep.CutRange
namespace Go.Proofs.Ytgnidjhfiagfnaa
open Go.RowKit

theorem norm_full (n : Nat) : Norm (List.replicate n 65535) := by
  refine norm_of_last (limbs_full n) ?_
  cases n with
  | zero => left; rfl
  | succ n => right; simp [List.getD_eq_getElem?_getD]
theorem digs_full (n : Nat) : digs (65536 ^ n - 1) = List.replicate n 65535 := by
  have h := (norm_full n).2
  have e := val_full n
  rw [show val (List.replicate n 65535) = 65536 ^ n - 1 by omega] at h
  exact h
theorem validB_full (x : Bool) (n : Nat) (h0 : 0 < n) (h : n ≤ 1024) : validB x (List.replicate n 65535) = true := by
  unfold validB
  rw [if_neg (by simp; omega)]
  refine decide_eq_true ⟨by simpa using h, ?_⟩
  have := norm_last (norm_full n) (by intro e; have := congrArg List.length e; simp at this; omega)
  exact this
theorem zv_full (n : Nat) : zv false (List.replicate n 65535) = ((65536 ^ n - 1 : Nat) : Int) := by
  unfold zv
  have e := val_full n
  simp
  omega
theorem big_len (k z : Nat) (h : 65536 ^ k ≤ z) : ¬ (digs z).length ≤ k := fun e => by
  have := lt_of_digs_length e
  omega

/-- The greatest number of n limbs. -/
def fullZ (n : Nat) : Int := ((65536 ^ n - 1 : Nat) : Int)
theorem fullZ_abs (n : Nat) : (fullZ n).natAbs = 65536 ^ n - 1 := by unfold fullZ; rw [Int.natAbs_natCast]
theorem fullZ_pos (n : Nat) : decide (fullZ n < 0) = false := by
  unfold fullZ
  generalize 65536 ^ n - 1 = m
  simp
theorem fullZ_neg (n : Nat) (h : 0 < n) : true = decide (-(fullZ n) < 0) := by
  have h1 : 65536 ^ 1 ≤ 65536 ^ n := Nat.pow_le_pow_right (by omega) h
  unfold fullZ
  generalize 65536 ^ n = m at *
  simp
  omega
theorem lz_full (n : Nat) : Lz n (fullZ n) := by
  rw [lz_iff, fullZ_abs]
  have : 0 < 65536 ^ n := Nat.pow_pos (by omega)
  omega
theorem lz_over (n : Nat) : ¬ Lz n (fullZ n + 1) := by
  rw [lz_iff]
  unfold fullZ
  have : 0 < 65536 ^ n := Nat.pow_pos (by omega)
  generalize 65536 ^ n = m at *
  omega
theorem lz_under (n : Nat) : ¬ Lz n (-(fullZ n) - 1) := by
  rw [lz_iff]
  unfold fullZ
  have : 0 < 65536 ^ n := Nat.pow_pos (by omega)
  generalize 65536 ^ n = m at *
  omega
theorem lz_twice (n : Nat) (h : 0 < n) : ¬ Lz n (fullZ n * 2) := by
  rw [lz_iff]
  have h1 : 65536 ^ 1 ≤ 65536 ^ n := Nat.pow_le_pow_right (by omega) h
  unfold fullZ
  generalize 65536 ^ n = m at *
  omega

theorem large_z (n : Nat) (w : World) (hn : n ≤ 100000) :
    Calls Try.prog 24 #[.int .i64 n] w fun e w' => ∃ A c m, e = .returned (.agg #[.bool false, .slice A m c]) ∧ Hid (m = n) ∧ WhZ w' (.agg #[.bool false, .slice A m c]) (fullZ n) ∧ Wh w' (.agg #[.bool false, .slice A m c]) false (List.replicate n 65535) ∧ Below w.heap.size w w' := by
  refine (large_any n w hn).mono ?_
  rintro e w' ⟨v, rfl, hw, hb⟩
  obtain ⟨A, c, rfl, hs⟩ := hw
  have hd : digs (fullZ n).natAbs = List.replicate n 65535 := by rw [fullZ_abs]; exact digs_full n
  refine ⟨A, c, _, rfl, List.length_replicate, ⟨A, c, ?_, ?_⟩, ⟨A, c, rfl, hs⟩, hb⟩
  · rw [fullZ_pos, hd]
  · rw [hd]; exact hs

theorem add_zl {w : World} {va vb : Value} {y z : Int} (hA : WhZ w va y) (hB : WhZ w vb z) (hy : Lz 1024 y) (hz : Lz 1024 z) (h : ¬ Lz 1024 (y + z)) :
    Calls Try.prog 13 #[va, vb] w fun e w' => ∃ v, e = .returned (.tuple #[v, .int .i64 3]) ∧ WhZ w' v 0 ∧ Below w.heap.size w w' := by
  have := add_wh hA hB
  rw [hy.ok (Nat.le_refl _), hz.ok (Nat.le_refl _), zv_whz, zv_whz] at this
  unfold code resz at this
  simp only [Bool.and_self, if_true] at this
  rw [if_neg (show ¬ (digs (y + z).natAbs).length ≤ 1024 from h), if_neg (show ¬ (digs (y + z).natAbs).length ≤ 1024 from h)] at this
  exact this

theorem sub_zl {w : World} {va vb : Value} {y z : Int} (hA : WhZ w va y) (hB : WhZ w vb z) (hy : Lz 1024 y) (hz : Lz 1024 z) (h : ¬ Lz 1024 (y - z)) :
    Calls Try.prog 14 #[va, vb] w fun e w' => ∃ v, e = .returned (.tuple #[v, .int .i64 3]) ∧ WhZ w' v 0 ∧ Below w.heap.size w w' := by
  have := sub_wh hA hB
  rw [hy.ok (Nat.le_refl _), hz.ok (Nat.le_refl _), zv_whz, zv_whz] at this
  unfold code resz at this
  simp only [Bool.and_self, if_true] at this
  rw [if_neg (show ¬ (digs (y - z).natAbs).length ≤ 1024 from h), if_neg (show ¬ (digs (y - z).natAbs).length ≤ 1024 from h)] at this
  exact this

theorem mul_zl {w : World} {va vb : Value} {y z : Int} (hA : WhZ w va y) (hB : WhZ w vb z) (hy : Lz 1024 y) (hz : Lz 1024 z) (h : ¬ Lz 1024 (y * z)) :
    Calls Try.prog 15 #[va, vb] w fun e w' => ∃ v, e = .returned (.tuple #[v, .int .i64 3]) ∧ WhZ w' v 0 ∧ Below w.heap.size w w' := by
  have := mul_wh hA hB
  rw [hy.ok (Nat.le_refl _), hz.ok (Nat.le_refl _), zv_whz, zv_whz] at this
  unfold code resz at this
  simp only [Bool.and_self, if_true] at this
  rw [if_neg (show ¬ (digs (y * z).natAbs).length ≤ 1024 from h), if_neg (show ¬ (digs (y * z).natAbs).length ≤ 1024 from h)] at this
  exact this

/-- The square of the greatest number of k limbs. -/
def sq (k : Nat) : List Nat := 1 :: (List.replicate k 0 ++ 65534 :: List.replicate k 65535)
theorem val_zeros (k : Nat) : val (List.replicate k 0) = 0 := val_eq_zero (fun x hx => (List.mem_replicate.1 hx).2)
theorem sq_limbs (k : Nat) : Limbs (sq k) := by
  unfold sq
  rw [limbs_cons, limbs_append, limbs_cons]
  exact ⟨by omega, fun x hx => by have := (List.mem_replicate.1 hx).2; omega, by omega, limbs_full k⟩
theorem sq_norm (k : Nat) : Norm (sq k) := by
  cases k with
  | zero => exact norm_snoc (a := [1]) (x := 65534) (by rw [limbs_cons]; exact ⟨by omega, limbs_nil⟩) (by omega) (by omega)
  | succ k =>
    have e : sq (k + 1) = (1 :: (List.replicate (k + 1) 0 ++ 65534 :: List.replicate k 65535)) ++ [65535] := by
      unfold sq
      rw [List.replicate_succ' (n := k) (a := 65535)]
      simp
    have h := sq_limbs (k + 1)
    rw [e] at h ⊢
    exact norm_snoc (limbs_append.1 h).1 (by omega) (by omega)
theorem sq_len (k : Nat) : (sq k).length = 2 * (k + 1) := by unfold sq; simp; omega
theorem sq_first (k : Nat) : nth (sq k) 0 = 1 := rfl
theorem sq_middle (k : Nat) : nth (sq k) (k + 1) = 65534 := by
  unfold sq nth
  simp [List.getD_eq_getElem?_getD]
theorem whz_flip {w : World} {z z' : Int} {b b' : Bool} {A : Option Addr} {n c : Nat} (h : WhZ w (.agg #[.bool b, .slice A n c]) z) (e : z.natAbs = z'.natAbs) (eb : b' = decide (z' < 0)) : WhZ w (.agg #[.bool b', .slice A n c]) z' := by
  obtain ⟨A', c', h1, h2⟩ := h
  injection h1 with h1
  simp at h1
  obtain ⟨_, rfl, h3, rfl⟩ := h1
  refine ⟨A, c, ?_, ?_⟩
  · rw [← e, eb, h3]
  · rw [← e]; exact h2
theorem sq_val (k : Nat) : val (sq k) = (65536 ^ (k + 1) - 1) * (65536 ^ (k + 1) - 1) := by
  unfold sq
  rw [val, val_append, val_zeros, val, List.length_replicate]
  have e := val_full k
  rw [Nat.pow_succ]
  generalize val (List.replicate k 65535) = s at *
  rw [← e]
  simp only [Nat.zero_add]
  have h1 : (s + 1) * 65536 - 1 = 65536 * s + 65535 := by omega
  rw [h1]
  grind
theorem sq_digs (k : Nat) : digs ((65536 ^ (k + 1) - 1) * (65536 ^ (k + 1) - 1)) = sq k := by rw [← sq_val]; exact (sq_norm k).2

theorem whz_store2 {w : World} {v : Value} {z : Int} (h : WhZ w v z) {g : Nat} {a : Bool} {A : Option Addr} {n c : Nat} (hb : Blk w g 26 #[.bool a, .slice A n c]) (x : Bool) (B : Option Addr) (m d : Nat) : WhZ ((w.setCell ⟨g, 0, none⟩ (.bool x)).setCell ⟨g, 1, none⟩ (.slice B m d)) v z := by
  obtain ⟨A', c', rfl, hs⟩ := h
  exact ⟨A', c', rfl, hs.store2 hb x B m d⟩
theorem sq_digs' (k n : Nat) (h : n = k + 1) : digs ((65536 ^ n - 1) * (65536 ^ n - 1)) = sq k := by subst h; exact sq_digs k
theorem sq_parts {w : World} {v : Value} (h : WhZ w v (fullZ 512 * fullZ 512)) : ∃ b o c, v = .agg #[.bool false, .slice (some ⟨b, o, none⟩) 1024 c] ∧ WhZ w (.agg #[.bool false, .slice (some ⟨b, o, none⟩) 1024 c]) (fullZ 512 * fullZ 512) ∧ b < w.heap.size ∧ w.cell? ⟨b, o, none⟩ = some (.int .u16 1) ∧ w.cell? ⟨b, o + 512, none⟩ = some (.int .u16 65534) := by
  have hz := h
  have hd : digs (fullZ 512 * fullZ 512).natAbs = sq 511 := by rw [Int.natAbs_mul, fullZ_abs]; exact sq_digs' 511 512 rfl
  obtain ⟨A, c, rfl, hs⟩ := h
  have hneg : decide (fullZ 512 * fullZ 512 < 0) = false := by
    unfold fullZ
    rw [← Int.natCast_mul]
    generalize (65536 ^ 512 - 1) * (65536 ^ 512 - 1) = m
    simp
  rw [hd] at hs
  obtain ⟨_, _, A', c', e, _, _, hat⟩ := id hs
  injection e with e1 e2 e3
  subst e1 e3
  have hl : (sq 511).length = 1024 := sq_len 511
  obtain ⟨b, o, rfl, hb, hc⟩ := hat.cells (by rw [hl]; omega)
  refine ⟨b, o, c, ?_, ?_, hb, ?_, ?_⟩
  · rw [hneg, hd, hl]
  · rw [hneg, hd, hl] at hz; exact hz
  · have := hc 0 (by rw [hl]; omega)
    exact this
  · have := hc 512 (by rw [hl]; omega)
    rw [this, sq_middle 511]
    rfl

set_option maxRecDepth 100000 in
set_option maxHeartbeats 2000000 in
theorem ends_any (w : World) : Calls Try.prog 4 #[] w fun e w' => e = .returned (.bool true) ∧ Below w.heap.size w w' := by
  have HT : Hid (Lz 1024 (fullZ 1024)) := lz_full 1024
  have HL : Hid (Lz 1024 (-(fullZ 1024))) := (lz_full 1024).neg
  have H1 : Hid (Lz 1024 1) := (lz_one (by decide)).mono (by omega)
  have H2 : Hid (Lz 1024 2) := (lz_one (by decide)).mono (by omega)
  have HS : Hid (Lz 1024 (fullZ 512)) := (lz_full 512).mono (by omega)
  have HQ : Hid (Lz 1024 (fullZ 512 * fullZ 512)) := (lz_full 512).mul (lz_full 512)
  have HZ : Hid (Lz 1024 (fullZ 1024 + -(fullZ 1024))) := by
    show Lz _ _
    rw [Int.add_right_neg]
    exact (lz_one (by decide)).mono (by omega)
  have hfd : ∀ (b : Bool) (A : Option Addr) (n c : Nat) (w : World), (Instr.field 26 (.agg #[.bool b, .slice A n c]) 1).run Try.prog w = .ok (.slice A n c) w := fun _ _ _ _ _ => by kernel_rfl
  go_enter Try.func4, Try.ntmps4
  go_wp2_with fail
  refine (large_z 1024 _ (by omega)).mono ?_
  rintro e u1 ⟨At, ct, nt, rfl, hnt, zt, _, h1⟩
  have ch1 := (Below.refl w.heap.size w).trans (h1.mono (Below.refl w.heap.size w).size)
  have a2 : Below u1.heap.size u1 (u1.alloc (.cells #[.bool false, .slice At nt ct] 26)) := (Below.refl _ _).alloc (Nat.le_refl _) _
  have bt : Blk (u1.alloc (.cells #[.bool false, .slice At nt ct] 26)) u1.heap.size 26 #[.bool false, .slice At nt ct] := Blk.new _ _ _
  have ch2 := ch1.trans (a2.mono ch1.size)
  replace zt := zt.below a2
  go_upto_region 2 with fail
  go_cut [3, 4] from 21 to 26 (fun _ d wx => d = .int .i64 3 ∧ Blk wx u1.heap.size 26 #[.bool false, .slice At nt ct] ∧ WhZ wx (.agg #[.bool false, .slice At nt ct]) (fullZ 1024) ∧ Below w.heap.size w wx)
  case first =>
    have al0 : Below (u1.alloc (.cells #[.bool false, .slice At nt ct] 26)).heap.size (u1.alloc (.cells #[.bool false, .slice At nt ct] 26)) ((u1.alloc (.cells #[.bool false, .slice At nt ct] 26)).alloc (Obj.cells #[.bool false, .slice none 0 0] 26)) := (Below.refl _ _).alloc (Nat.le_refl _) _
    have nb0a : Blk ((u1.alloc (.cells #[.bool false, .slice At nt ct] 26)).alloc (Obj.cells #[.bool false, .slice none 0 0] 26)).drew (u1.heap.size + 1) 26 #[.bool false, .slice none 0 0] := by
      have := (Blk.new (u1.alloc (.cells #[.bool false, .slice At nt ct] 26)) 26 #[.bool false, .slice none 0 0]).drew
      rw [show (u1.alloc (.cells #[.bool false, .slice At nt ct] 26)).heap.size = (u1.heap.size + 1) from World.size_alloc _ _] at this
      exact this
    have bt0 := bt.drew
    have bt0a := (bt.alloc (Obj.cells #[.bool false, .slice none 0 0] 26)).drew
    have zt0 := whz_drew zt
    have zt0a := whz_drew (zt.below al0)
    have ch0 := ch2.drew
    have ch0a := (ch2.trans (al0.mono ch2.size)).drew
    have kk0 := cells2 bt0
    have kk0a := cells2 bt0a
    go_region_held3 (fun w' => w'.cell? ⟨u1.heap.size, 0, none⟩ = some (.bool false) ∧ w'.cell? ⟨u1.heap.size, 1, none⟩ = some (.slice At nt ct))
      (first | (with_reducible exact kk2a) | (with_reducible exact kk2) | (with_reducible exact kk1a) | (with_reducible exact kk1) | (with_reducible exact kk0a) | (with_reducible exact kk0) | exact cells2 (bt2.alloc _) | exact cells2 ((bt2.far (by first | (simp; done) | (simp; omega) | (have := bt1.lt; simp at this ⊢; omega) | (have := bt.lt; simp at this ⊢; omega)) _).far (by first | (simp; done) | (simp; omega) | (have := bt1.lt; simp at this ⊢; omega) | (have := bt.lt; simp at this ⊢; omega)) _) | (trace_state; fail))
      (first | (have g_ := kk1; clear g_; go_at_call 13; (first | (refine (add_zl zt1 zo1 HT.out H1.out (lz_over 1024)).mono ?_; rintro e w2 ⟨va, rfl, za2, hb2⟩; have bt2 := bt1.below hb2 bt1.lt; have zt2 := zt1.below hb2; have ch2 := ch1.trans (hb2.mono ch1.size); have kk2 := cells2 bt2; first | (have nb2 := nb1.below hb2 nb1.lt; have g4 := (nb2.cell 0).trans (b := some (Value.bool false)) rfl; have g5 := (nb2.cell 1).trans (b := some (Value.slice none 0 0)) rfl; have h4 := nb2.frozen 0; have h5 := nb2.frozen 1; have l4 := nb2.lt) | (have al2 : Below w2.heap.size w2 (w2.alloc (Obj.cells #[.bool false, .slice none 0 0] 26)) := (Below.refl _ _).alloc (Nat.le_refl _) _; have nb2a : Blk (w2.alloc (Obj.cells #[.bool false, .slice none 0 0] 26)) w2.heap.size 26 #[.bool false, .slice none 0 0] := Blk.new _ _ _; have bt2a := bt2.below al2 bt2.lt; have zt2a := zt2.below al2; have ch2a := ch2.trans (al2.mono ch2.size); have kk2a := cells2 bt2a; have g4 := (nb2a.cell 0).trans (b := some (Value.bool false)) rfl; have g5 := (nb2a.cell 1).trans (b := some (Value.slice none 0 0)) rfl; have h4 := nb2a.frozen 0; have h5 := nb2a.frozen 1; have l4 := nb2a.lt)) | (refine (add_zl zt1a zo1a HT.out H1.out (lz_over 1024)).mono ?_; rintro e w2 ⟨va, rfl, za2, hb2⟩; have bt2 := bt1a.below hb2 bt1a.lt; have zt2 := zt1a.below hb2; have ch2 := ch1a.trans (hb2.mono ch1a.size); have kk2 := cells2 bt2; have nb2 := nb1a.below hb2 nb1a.lt; have g4 := (nb2.cell 0).trans (b := some (Value.bool false)) rfl; have g5 := (nb2.cell 1).trans (b := some (Value.slice none 0 0)) rfl; have h4 := nb2.frozen 0; have h5 := nb2.frozen 1; have l4 := nb2.lt)); obtain ⟨nva, Ava, cva, Hnva, rfl, hsva⟩ := whz_len za2) | (go_at_call 25; refine (num_wh 1 _ (by omega) (by omega)).mono ?_; rintro e w1 ⟨vo, rfl, zo1, hb1⟩; first | (have bt1 := bt0a.below hb1 bt0a.lt; have zt1 := zt0a.below hb1; have ch1 := ch0a.trans (hb1.mono ch0a.size); have kk1 := cells2 bt1; have nb1 := nb0a.below hb1 nb0a.lt) | (have bt1 := bt0.below hb1 bt0.lt; have zt1 := zt0.below hb1; have ch1 := ch0.trans (hb1.mono ch0.size); have kk1 := cells2 bt1; have al1 : Below w1.heap.size w1 (w1.alloc (Obj.cells #[.bool false, .slice none 0 0] 26)) := (Below.refl _ _).alloc (Nat.le_refl _) _; have nb1a : Blk (w1.alloc (Obj.cells #[.bool false, .slice none 0 0] 26)) w1.heap.size 26 #[.bool false, .slice none 0 0] := Blk.new _ _ _; have bt1a := bt1.below al1 bt1.lt; have zt1a := zt1.below al1; have ch1a := ch1.trans (al1.mono ch1.size); have kk1a := cells2 bt1a; have zo1a := zo1.below al1)))
    all_goals (go_wp2_with fail; go_meet; first
      | exact ⟨rfl, bt2.alloc _, zt2.below ((Below.refl _ _).alloc (Nat.le_refl _) _), ch2.alloc ch2.size _⟩
      | exact ⟨rfl, (bt2.far (by first | (simp; done) | (simp; omega) | (have := bt1.lt; simp at this ⊢; omega) | (have := bt.lt; simp at this ⊢; omega)) _).far (by first | (simp; done) | (simp; omega) | (have := bt1.lt; simp at this ⊢; omega) | (have := bt.lt; simp at this ⊢; omega)) _, whz_store2 zt2 nb2 _ _ _ _, (ch2.setCell (by first | (simp; done) | (simp; have := ch1.size; omega) | (have := ch0.size; simp at this ⊢; omega) | (have := ch2.size; simp at this ⊢; omega)) _).setCell (by first | (simp; done) | (simp; have := ch1.size; omega) | (have := ch0.size; simp at this ⊢; omega) | (have := ch2.size; simp at this ⊢; omega)) _⟩
      | (trace_state; fail))
  case rest =>
    obtain ⟨rfl, nbt, nzt, ch3⟩ := hcut
    clear bt zt ch2
    have bt := nbt
    have zt := nzt
    clear nbt nzt
    rename World => wc1
    go_upto_region 3 with fail
    go_cut [5, 6] from 27 to 32 (fun _ d wx => d = .int .i64 3 ∧ Blk wx u1.heap.size 26 #[.bool false, .slice At nt ct] ∧ WhZ wx (.agg #[.bool false, .slice At nt ct]) (fullZ 1024) ∧ Below w.heap.size w wx)
    case first =>
      have al0 : Below wc1.heap.size wc1 (wc1.alloc (Obj.cells #[.bool false, .slice none 0 0] 26)) := (Below.refl _ _).alloc (Nat.le_refl _) _
      have nb0a : Blk (wc1.alloc (Obj.cells #[.bool false, .slice none 0 0] 26)).drew wc1.heap.size 26 #[.bool false, .slice none 0 0] := by
        have := (Blk.new wc1 26 #[.bool false, .slice none 0 0]).drew
        rw [show wc1.heap.size = wc1.heap.size from rfl] at this
        exact this
      have bt0 := bt.drew
      have bt0a := (bt.alloc (Obj.cells #[.bool false, .slice none 0 0] 26)).drew
      have zt0 := whz_drew zt
      have zt0a := whz_drew (zt.below al0)
      have ch0 := ch3.drew
      have ch0a := (ch3.trans (al0.mono ch3.size)).drew
      have kk0 := cells2 bt0
      have kk0a := cells2 bt0a
      go_region_held3 (fun w' => w'.cell? ⟨u1.heap.size, 0, none⟩ = some (.bool false) ∧ w'.cell? ⟨u1.heap.size, 1, none⟩ = some (.slice At nt ct))
        (first | (with_reducible exact kk2a) | (with_reducible exact kk2) | (with_reducible exact kk1a) | (with_reducible exact kk1) | (with_reducible exact kk0a) | (with_reducible exact kk0) | exact cells2 (bt2.alloc _) | exact cells2 ((bt2.far (by first | (simp; done) | (simp; omega) | (have := bt1.lt; simp at this ⊢; omega) | (have := bt.lt; simp at this ⊢; omega)) _).far (by first | (simp; done) | (simp; omega) | (have := bt1.lt; simp at this ⊢; omega) | (have := bt.lt; simp at this ⊢; omega)) _) | (trace_state; fail))
        (first | (have g_ := kk1; clear g_; go_at_call 15; (first | (refine (mul_zl zt1 zo1 HT.out H2.out (lz_twice 1024 (by omega))).mono ?_; rintro e w2 ⟨va, rfl, za2, hb2⟩; have bt2 := bt1.below hb2 bt1.lt; have zt2 := zt1.below hb2; have ch2 := ch1.trans (hb2.mono ch1.size); have kk2 := cells2 bt2; first | (have nb2 := nb1.below hb2 nb1.lt; have g4 := (nb2.cell 0).trans (b := some (Value.bool false)) rfl; have g5 := (nb2.cell 1).trans (b := some (Value.slice none 0 0)) rfl; have h4 := nb2.frozen 0; have h5 := nb2.frozen 1; have l4 := nb2.lt) | (have al2 : Below w2.heap.size w2 (w2.alloc (Obj.cells #[.bool false, .slice none 0 0] 26)) := (Below.refl _ _).alloc (Nat.le_refl _) _; have nb2a : Blk (w2.alloc (Obj.cells #[.bool false, .slice none 0 0] 26)) w2.heap.size 26 #[.bool false, .slice none 0 0] := Blk.new _ _ _; have bt2a := bt2.below al2 bt2.lt; have zt2a := zt2.below al2; have ch2a := ch2.trans (al2.mono ch2.size); have kk2a := cells2 bt2a; have g4 := (nb2a.cell 0).trans (b := some (Value.bool false)) rfl; have g5 := (nb2a.cell 1).trans (b := some (Value.slice none 0 0)) rfl; have h4 := nb2a.frozen 0; have h5 := nb2a.frozen 1; have l4 := nb2a.lt)) | (refine (mul_zl zt1a zo1a HT.out H2.out (lz_twice 1024 (by omega))).mono ?_; rintro e w2 ⟨va, rfl, za2, hb2⟩; have bt2 := bt1a.below hb2 bt1a.lt; have zt2 := zt1a.below hb2; have ch2 := ch1a.trans (hb2.mono ch1a.size); have kk2 := cells2 bt2; have nb2 := nb1a.below hb2 nb1a.lt; have g4 := (nb2.cell 0).trans (b := some (Value.bool false)) rfl; have g5 := (nb2.cell 1).trans (b := some (Value.slice none 0 0)) rfl; have h4 := nb2.frozen 0; have h5 := nb2.frozen 1; have l4 := nb2.lt)); obtain ⟨nva, Ava, cva, Hnva, rfl, hsva⟩ := whz_len za2) | (go_at_call 25; refine (num_wh 2 _ (by omega) (by omega)).mono ?_; rintro e w1 ⟨vo, rfl, zo1, hb1⟩; first | (have bt1 := bt0a.below hb1 bt0a.lt; have zt1 := zt0a.below hb1; have ch1 := ch0a.trans (hb1.mono ch0a.size); have kk1 := cells2 bt1; have nb1 := nb0a.below hb1 nb0a.lt) | (have bt1 := bt0.below hb1 bt0.lt; have zt1 := zt0.below hb1; have ch1 := ch0.trans (hb1.mono ch0.size); have kk1 := cells2 bt1; have al1 : Below w1.heap.size w1 (w1.alloc (Obj.cells #[.bool false, .slice none 0 0] 26)) := (Below.refl _ _).alloc (Nat.le_refl _) _; have nb1a : Blk (w1.alloc (Obj.cells #[.bool false, .slice none 0 0] 26)) w1.heap.size 26 #[.bool false, .slice none 0 0] := Blk.new _ _ _; have bt1a := bt1.below al1 bt1.lt; have zt1a := zt1.below al1; have ch1a := ch1.trans (al1.mono ch1.size); have kk1a := cells2 bt1a; have zo1a := zo1.below al1)))
      all_goals (go_wp2_with fail; go_meet; first
        | exact ⟨rfl, bt2.alloc _, zt2.below ((Below.refl _ _).alloc (Nat.le_refl _) _), ch2.alloc ch2.size _⟩
        | exact ⟨rfl, (bt2.far (by first | (simp; done) | (simp; omega) | (have := bt1.lt; simp at this ⊢; omega) | (have := bt.lt; simp at this ⊢; omega)) _).far (by first | (simp; done) | (simp; omega) | (have := bt1.lt; simp at this ⊢; omega) | (have := bt.lt; simp at this ⊢; omega)) _, whz_store2 zt2 nb2 _ _ _ _, (ch2.setCell (by first | (simp; done) | (simp; have := ch1.size; omega) | (have := ch0.size; simp at this ⊢; omega) | (have := ch3.size; simp at this ⊢; omega)) _).setCell (by first | (simp; done) | (simp; have := ch1.size; omega) | (have := ch0.size; simp at this ⊢; omega) | (have := ch3.size; simp at this ⊢; omega)) _⟩
        | (trace_state; fail))
    case rest =>
      obtain ⟨rfl, nbt, nzt, ch4⟩ := hcut
      clear bt zt ch3
      have bt := nbt
      have zt := nzt
      clear nbt nzt
      rename World => wc2
      go_wp2_with fail
      refine (large_z 1024 _ (by omega)).mono ?_
      rintro e u3 ⟨Al, cl, nl, rfl, hnl, zl, _, h3⟩
      have ch5 := ch4.trans (h3.mono ch4.size)
      replace bt := bt.below h3 bt.lt
      replace zt := zt.below h3
      replace zl := whz_flip (b' := true) (z' := -(fullZ 1024)) zl (by rw [Int.natAbs_neg]) (fullZ_neg 1024 (by omega))
      have a4 : Below u3.heap.size u3 (u3.alloc (.cells #[.bool true, .slice Al nl cl] 26)) := (Below.refl _ _).alloc (Nat.le_refl _) _
      have bl : Blk (u3.alloc (.cells #[.bool true, .slice Al nl cl] 26)) u3.heap.size 26 #[.bool true, .slice Al nl cl] := Blk.new _ _ _
      have ch6 := ch5.trans (a4.mono ch5.size)
      replace bt := bt.below a4 bt.lt
      replace zt := zt.below a4
      replace zl := zl.below a4
      go_upto_region 5 with fail
      go_cut [8, 9] from 36 to 41 (fun _ d wx => d = .int .i64 3 ∧ Blk wx u1.heap.size 26 #[.bool false, .slice At nt ct] ∧ Blk wx u3.heap.size 26 #[.bool true, .slice Al nl cl] ∧ WhZ wx (.agg #[.bool false, .slice At nt ct]) (fullZ 1024) ∧ WhZ wx (.agg #[.bool true, .slice Al nl cl]) (-(fullZ 1024)) ∧ Below w.heap.size w wx)
      case first =>
        have al0 : Below (u3.alloc (.cells #[.bool true, .slice Al nl cl] 26)).heap.size (u3.alloc (.cells #[.bool true, .slice Al nl cl] 26)) ((u3.alloc (.cells #[.bool true, .slice Al nl cl] 26)).alloc (Obj.cells #[.bool false, .slice none 0 0] 26)) := (Below.refl _ _).alloc (Nat.le_refl _) _
        have nb0a : Blk ((u3.alloc (.cells #[.bool true, .slice Al nl cl] 26)).alloc (Obj.cells #[.bool false, .slice none 0 0] 26)).drew (u3.heap.size + 1) 26 #[.bool false, .slice none 0 0] := by
          have := (Blk.new (u3.alloc (.cells #[.bool true, .slice Al nl cl] 26)) 26 #[.bool false, .slice none 0 0]).drew
          rw [show (u3.alloc (.cells #[.bool true, .slice Al nl cl] 26)).heap.size = (u3.heap.size + 1) from World.size_alloc _ _] at this
          exact this
        have bt0 := bt.drew
        have bt0a := (bt.alloc (Obj.cells #[.bool false, .slice none 0 0] 26)).drew
        have bl0 := bl.drew
        have bl0a := (bl.alloc (Obj.cells #[.bool false, .slice none 0 0] 26)).drew
        have zt0 := whz_drew zt
        have zt0a := whz_drew (zt.below al0)
        have zl0 := whz_drew zl
        have zl0a := whz_drew (zl.below al0)
        have ch0 := ch6.drew
        have ch0a := (ch6.trans (al0.mono ch6.size)).drew
        have kk0 := cells2 bl0
        have kk0a := cells2 bl0a
        go_region_held3 (fun w' => w'.cell? ⟨u3.heap.size, 0, none⟩ = some (.bool true) ∧ w'.cell? ⟨u3.heap.size, 1, none⟩ = some (.slice Al nl cl))
          (first | (with_reducible exact kk2a) | (with_reducible exact kk2) | (with_reducible exact kk1a) | (with_reducible exact kk1) | (with_reducible exact kk0a) | (with_reducible exact kk0) | exact cells2 (bl2.alloc _) | exact cells2 ((bl2.far (by first | (simp; done) | (simp; omega) | (have := bl1.lt; simp at this ⊢; omega) | (have := bl.lt; simp at this ⊢; omega)) _).far (by first | (simp; done) | (simp; omega) | (have := bl1.lt; simp at this ⊢; omega) | (have := bl.lt; simp at this ⊢; omega)) _) | (trace_state; fail))
          (first | (have g_ := kk1; clear g_; go_at_call 14; (first | (refine (sub_zl zl1 zo1 HL.out H1.out (lz_under 1024)).mono ?_; rintro e w2 ⟨va, rfl, za2, hb2⟩; have bt2 := bt1.below hb2 bt1.lt; have bl2 := bl1.below hb2 bl1.lt; have zt2 := zt1.below hb2; have zl2 := zl1.below hb2; have ch2 := ch1.trans (hb2.mono ch1.size); have kk2 := cells2 bl2; first | (have nb2 := nb1.below hb2 nb1.lt; have g4 := (nb2.cell 0).trans (b := some (Value.bool false)) rfl; have g5 := (nb2.cell 1).trans (b := some (Value.slice none 0 0)) rfl; have h4 := nb2.frozen 0; have h5 := nb2.frozen 1; have l4 := nb2.lt) | (have al2 : Below w2.heap.size w2 (w2.alloc (Obj.cells #[.bool false, .slice none 0 0] 26)) := (Below.refl _ _).alloc (Nat.le_refl _) _; have nb2a : Blk (w2.alloc (Obj.cells #[.bool false, .slice none 0 0] 26)) w2.heap.size 26 #[.bool false, .slice none 0 0] := Blk.new _ _ _; have bt2a := bt2.below al2 bt2.lt; have bl2a := bl2.below al2 bl2.lt; have zt2a := zt2.below al2; have zl2a := zl2.below al2; have ch2a := ch2.trans (al2.mono ch2.size); have kk2a := cells2 bl2a; have g4 := (nb2a.cell 0).trans (b := some (Value.bool false)) rfl; have g5 := (nb2a.cell 1).trans (b := some (Value.slice none 0 0)) rfl; have h4 := nb2a.frozen 0; have h5 := nb2a.frozen 1; have l4 := nb2a.lt)) | (refine (sub_zl zl1a zo1a HL.out H1.out (lz_under 1024)).mono ?_; rintro e w2 ⟨va, rfl, za2, hb2⟩; have bt2 := bt1a.below hb2 bt1a.lt; have bl2 := bl1a.below hb2 bl1a.lt; have zt2 := zt1a.below hb2; have zl2 := zl1a.below hb2; have ch2 := ch1a.trans (hb2.mono ch1a.size); have kk2 := cells2 bl2; have nb2 := nb1a.below hb2 nb1a.lt; have g4 := (nb2.cell 0).trans (b := some (Value.bool false)) rfl; have g5 := (nb2.cell 1).trans (b := some (Value.slice none 0 0)) rfl; have h4 := nb2.frozen 0; have h5 := nb2.frozen 1; have l4 := nb2.lt)); obtain ⟨nva, Ava, cva, Hnva, rfl, hsva⟩ := whz_len za2) | (go_at_call 25; refine (num_wh 1 _ (by omega) (by omega)).mono ?_; rintro e w1 ⟨vo, rfl, zo1, hb1⟩; first | (have bt1 := bt0a.below hb1 bt0a.lt; have bl1 := bl0a.below hb1 bl0a.lt; have zt1 := zt0a.below hb1; have zl1 := zl0a.below hb1; have ch1 := ch0a.trans (hb1.mono ch0a.size); have kk1 := cells2 bl1; have nb1 := nb0a.below hb1 nb0a.lt) | (have bt1 := bt0.below hb1 bt0.lt; have bl1 := bl0.below hb1 bl0.lt; have zt1 := zt0.below hb1; have zl1 := zl0.below hb1; have ch1 := ch0.trans (hb1.mono ch0.size); have kk1 := cells2 bl1; have al1 : Below w1.heap.size w1 (w1.alloc (Obj.cells #[.bool false, .slice none 0 0] 26)) := (Below.refl _ _).alloc (Nat.le_refl _) _; have nb1a : Blk (w1.alloc (Obj.cells #[.bool false, .slice none 0 0] 26)) w1.heap.size 26 #[.bool false, .slice none 0 0] := Blk.new _ _ _; have bt1a := bt1.below al1 bt1.lt; have bl1a := bl1.below al1 bl1.lt; have zt1a := zt1.below al1; have zl1a := zl1.below al1; have ch1a := ch1.trans (al1.mono ch1.size); have kk1a := cells2 bl1a; have zo1a := zo1.below al1)))
        all_goals (go_wp2_with fail; go_meet; first
          | exact ⟨rfl, bt2.alloc _, bl2.alloc _, zt2.below ((Below.refl _ _).alloc (Nat.le_refl _) _), zl2.below ((Below.refl _ _).alloc (Nat.le_refl _) _), ch2.alloc ch2.size _⟩
          | exact ⟨rfl, (bt2.far (by first | (simp; done) | (simp; omega) | (have := bt1.lt; simp at this ⊢; omega) | (have := bt.lt; simp at this ⊢; omega)) _).far (by first | (simp; done) | (simp; omega) | (have := bt1.lt; simp at this ⊢; omega) | (have := bt.lt; simp at this ⊢; omega)) _, (bl2.far (by first | (simp; done) | (simp; omega) | (have := bl1.lt; simp at this ⊢; omega) | (have := bl.lt; simp at this ⊢; omega)) _).far (by first | (simp; done) | (simp; omega) | (have := bl1.lt; simp at this ⊢; omega) | (have := bl.lt; simp at this ⊢; omega)) _, whz_store2 zt2 nb2 _ _ _ _, whz_store2 zl2 nb2 _ _ _ _, (ch2.setCell (by first | (simp; done) | (simp; have := ch1.size; omega) | (have := ch0.size; simp at this ⊢; omega) | (have := ch6.size; simp at this ⊢; omega)) _).setCell (by first | (simp; done) | (simp; have := ch1.size; omega) | (have := ch0.size; simp at this ⊢; omega) | (have := ch6.size; simp at this ⊢; omega)) _⟩
          | (trace_state; fail))
      case rest =>
        obtain ⟨rfl, nbt, nbl, nzt, nzl, ch7⟩ := hcut
        clear bt bl zt zl ch6
        have bt := nbt
        have bl := nbl
        have zt := nzt
        have zl := nzl
        clear nbt nbl nzt nzl
        rename World => wc3
        have c0bt := (bt.cell 0).trans (b := some (Value.bool false)) rfl
        have c1bt := (bt.cell 1).trans (b := some (Value.slice At nt ct)) rfl
        have c0bl := (bl.cell 0).trans (b := some (Value.bool true)) rfl
        have c1bl := (bl.cell 1).trans (b := some (Value.slice Al nl cl)) rfl
        go_wp2_with fail
        refine (add_z2 zt zl HT.out HL.out HZ.out).mono ?_
        rintro e u5 ⟨vs, rfl, zs, h5⟩
        have ch8 := ch7.trans (h5.mono ch7.size)
        replace bt := bt.below h5 bt.lt
        replace bl := bl.below h5 bl.lt
        replace zt := zt.below h5
        replace zl := zl.below h5
        clear c0bt c1bt c0bl c1bl
        rw [Int.add_right_neg] at zs
        obtain ⟨ns, As, cs, Hns, rfl, hss⟩ := whz_len zs
        clear hss
        have a6 : Below u5.heap.size u5 (u5.alloc (.cells #[.bool false, .slice As ns cs] 26)) := (Below.refl _ _).alloc (Nat.le_refl _) _
        have bs : Blk (u5.alloc (.cells #[.bool false, .slice As ns cs] 26)) u5.heap.size 26 #[.bool false, .slice As ns cs] := Blk.new _ _ _
        have ch9 := ch8.trans (a6.mono ch8.size)
        replace bt := bt.below a6 bt.lt
        replace bl := bl.below a6 bl.lt
        replace zt := zt.below a6
        replace zl := zl.below a6
        replace zs := zs.below a6
        clear zt zl
        go_wp2_with fail
        refine (large_z 512 _ (by omega)).mono ?_
        rintro e u7 ⟨Aa, ca, na, rfl, hna, za, _, h7⟩
        have ch10 := ch9.trans (h7.mono ch9.size)
        replace bt := bt.below h7 bt.lt
        replace bl := bl.below h7 bl.lt
        replace bs := bs.below h7 bs.lt
        replace zs := zs.below h7
        go_wp2_with fail
        refine (large_z 512 _ (by omega)).mono ?_
        rintro e u8 ⟨Ab, cb, nb, rfl, hnb, zb, _, h8⟩
        have ch11 := ch10.trans (h8.mono ch10.size)
        replace bt := bt.below h8 bt.lt
        replace bl := bl.below h8 bl.lt
        replace bs := bs.below h8 bs.lt
        replace zs := zs.below h8
        replace za := za.below h8
        go_wp2_with fail
        refine (mul_z2 za zb HS.out HS.out HQ.out).mono ?_
        rintro e u9 ⟨vq, rfl, zq, h9⟩
        have ch12 := ch11.trans (h9.mono ch11.size)
        replace bt := bt.below h9 bt.lt
        replace bl := bl.below h9 bl.lt
        replace bs := bs.below h9 bs.lt
        replace zs := zs.below h9
        replace za := za.below h9
        replace zb := zb.below h9
        obtain ⟨bQ, oQ, cQ, rfl, zq, lQ, q0, q1⟩ := sq_parts zq
        clear za zb
        clear zq
        have a10 : Below u9.heap.size u9 (u9.alloc (.cells #[.bool false, .slice (some ⟨bQ, oQ, none⟩) 1024 cQ] 26)) := (Below.refl _ _).alloc (Nat.le_refl _) _
        have bq : Blk (u9.alloc (.cells #[.bool false, .slice (some ⟨bQ, oQ, none⟩) 1024 cQ] 26)) u9.heap.size 26 #[.bool false, .slice (some ⟨bQ, oQ, none⟩) 1024 cQ] := Blk.new _ _ _
        have ch13 := ch12.trans (a10.mono ch12.size)
        replace bt := bt.below a10 bt.lt
        replace bl := bl.below a10 bl.lt
        replace bs := bs.below a10 bs.lt
        replace zs := zs.below a10
        replace q0 := (a10.cell (p := ⟨bQ, oQ, none⟩) lQ).trans q0
        replace q1 := (a10.cell (p := ⟨bQ, oQ + 512, none⟩) lQ).trans q1
        replace lQ := Nat.lt_of_lt_of_le lQ a10.size
        go_wp2_with fail
        refine (num_wh (-9223372036854775808) _ (by omega) (by omega)).mono ?_
        rintro e u11 ⟨vn, rfl, zn, h11⟩
        have ch14 := ch13.trans (h11.mono ch13.size)
        replace bt := bt.below h11 bt.lt
        replace bl := bl.below h11 bl.lt
        replace bs := bs.below h11 bs.lt
        replace bq := bq.below h11 bq.lt
        replace zs := zs.below h11
        replace q0 := (h11.cell (p := ⟨bQ, oQ, none⟩) lQ).trans q0
        replace q1 := (h11.cell (p := ⟨bQ, oQ + 512, none⟩) lQ).trans q1
        replace lQ := Nat.lt_of_lt_of_le lQ h11.size
        go_wp2_with fail
        refine (int_z zn ((lz_four (by decide)).mono (by omega)) (by omega) (by omega)).mono ?_
        rintro e u12 ⟨rfl, h12⟩
        have ch15 := ch14.trans (h12.mono ch14.size)
        replace bt := bt.below h12 bt.lt
        replace bl := bl.below h12 bl.lt
        replace bs := bs.below h12 bs.lt
        replace bq := bq.below h12 bq.lt
        replace zs := zs.below h12
        replace zn := zn.below h12
        replace q0 := (h12.cell (p := ⟨bQ, oQ, none⟩) lQ).trans q0
        replace q1 := (h12.cell (p := ⟨bQ, oQ + 512, none⟩) lQ).trans q1
        replace lQ := Nat.lt_of_lt_of_le lQ h12.size
        clear zn
        go_wp2_with fail
        refine (num_wh (-9223372036854775808) _ (by omega) (by omega)).mono ?_
        rintro e u13 ⟨vm, rfl, zm, h13⟩
        have ch16 := ch15.trans (h13.mono ch15.size)
        replace bt := bt.below h13 bt.lt
        replace bl := bl.below h13 bl.lt
        replace bs := bs.below h13 bs.lt
        replace bq := bq.below h13 bq.lt
        replace zs := zs.below h13
        replace q0 := (h13.cell (p := ⟨bQ, oQ, none⟩) lQ).trans q0
        replace q1 := (h13.cell (p := ⟨bQ, oQ + 512, none⟩) lQ).trans q1
        replace lQ := Nat.lt_of_lt_of_le lQ h13.size
        obtain ⟨nm, Am, cm, Hnm, rfl, hsm⟩ := whz_len zm
        clear hsm
        replace zm := whz_flip (b' := false) (z' := 9223372036854775808) zm (by decide) (by decide)
        go_wp2_with fail
        refine (int_out zm ((lz_four (by decide)).mono (by omega)) (.inr (by omega))).mono ?_
        rintro e u14 ⟨rfl, h14⟩
        have ch17 := ch16.trans (h14.mono ch16.size)
        replace bt := bt.below h14 bt.lt
        replace bl := bl.below h14 bl.lt
        replace bs := bs.below h14 bs.lt
        replace bq := bq.below h14 bq.lt
        replace zs := zs.below h14
        replace q0 := (h14.cell (p := ⟨bQ, oQ, none⟩) lQ).trans q0
        replace q1 := (h14.cell (p := ⟨bQ, oQ + 512, none⟩) lQ).trans q1
        replace lQ := Nat.lt_of_lt_of_le lQ h14.size
        clear zm
        go_wp2_with fail
        refine (num_wh 9223372036854775807 _ (by omega) (by omega)).mono ?_
        rintro e u15 ⟨vx, rfl, zx, h15⟩
        have ch18 := ch17.trans (h15.mono ch17.size)
        replace bt := bt.below h15 bt.lt
        replace bl := bl.below h15 bl.lt
        replace bs := bs.below h15 bs.lt
        replace bq := bq.below h15 bq.lt
        replace zs := zs.below h15
        replace q0 := (h15.cell (p := ⟨bQ, oQ, none⟩) lQ).trans q0
        replace q1 := (h15.cell (p := ⟨bQ, oQ + 512, none⟩) lQ).trans q1
        replace lQ := Nat.lt_of_lt_of_le lQ h15.size
        go_wp2_with fail
        refine (int_z zx ((lz_four (by decide)).mono (by omega)) (by omega) (by omega)).mono ?_
        rintro e u16 ⟨rfl, h16⟩
        have ch19 := ch18.trans (h16.mono ch18.size)
        replace bt := bt.below h16 bt.lt
        replace bl := bl.below h16 bl.lt
        replace bs := bs.below h16 bs.lt
        replace bq := bq.below h16 bq.lt
        replace zs := zs.below h16
        replace zx := zx.below h16
        replace q0 := (h16.cell (p := ⟨bQ, oQ, none⟩) lQ).trans q0
        replace q1 := (h16.cell (p := ⟨bQ, oQ + 512, none⟩) lQ).trans q1
        replace lQ := Nat.lt_of_lt_of_le lQ h16.size
        clear zx
        have c0bs := (bs.cell 0).trans (b := some (Value.bool false)) rfl
        have c1bs := (bs.cell 1).trans (b := some (Value.slice As ns cs)) rfl
        have c0bq := (bq.cell 0).trans (b := some (Value.bool false)) rfl
        have c1bq := (bq.cell 1).trans (b := some (Value.slice (some ⟨bQ, oQ, none⟩) 1024 cQ)) rfl
        have q0' : u16.cell? ⟨bQ, oQ + 0, none⟩ = some (.int .u16 1) := q0
        go_wp2_with fail
        refine (is_whz zs (by omega) (by omega) rfl).mono ?_
        rintro e u17 ⟨rfl, h17⟩
        have ch20 := ch19.trans (h17.mono ch19.size)
        replace bt := bt.below h17 bt.lt
        replace bl := bl.below h17 bl.lt
        replace bs := bs.below h17 bs.lt
        replace bq := bq.below h17 bq.lt
        replace zs := zs.below h17
        replace q0 := (h17.cell (p := ⟨bQ, oQ, none⟩) lQ).trans q0
        replace q1 := (h17.cell (p := ⟨bQ, oQ + 512, none⟩) lQ).trans q1
        replace lQ := Nat.lt_of_lt_of_le lQ h17.size
        clear q0'
        clear c0bs c1bs c0bq c1bq
        clear zs
        have c0bq := (bq.cell 0).trans (b := some (Value.bool false)) rfl
        have c1bq := (bq.cell 1).trans (b := some (Value.slice (some ⟨bQ, oQ, none⟩) 1024 cQ)) rfl
        go_wp2_with fail
        refine (large_any 1025 _ (by omega)).mono ?_
        rintro e u18 ⟨vb, rfl, zb, h18⟩
        have ch21 := ch20.trans (h18.mono ch20.size)
        replace bt := bt.below h18 bt.lt
        replace bl := bl.below h18 bl.lt
        replace bs := bs.below h18 bs.lt
        replace bq := bq.below h18 bq.lt
        replace q0 := (h18.cell (p := ⟨bQ, oQ, none⟩) lQ).trans q0
        replace q1 := (h18.cell (p := ⟨bQ, oQ + 512, none⟩) lQ).trans q1
        replace lQ := Nat.lt_of_lt_of_le lQ h18.size
        clear c0bq c1bq
        have HV : validB false (List.replicate 1025 65535) = false := by
          unfold validB
          rw [if_neg (by rw [List.length_replicate]; omega)]
          exact decide_eq_false (fun h => by rw [List.length_replicate] at h; omega)
        go_wp2_with fail
        refine (valid_wh zb).mono ?_
        rintro e u19 ⟨rfl, h19⟩
        have ch22 := ch21.trans (h19.mono ch21.size)
        replace bt := bt.below h19 bt.lt
        replace bl := bl.below h19 bl.lt
        replace bs := bs.below h19 bs.lt
        replace bq := bq.below h19 bq.lt
        replace zb := zb.below h19
        replace q0 := (h19.cell (p := ⟨bQ, oQ, none⟩) lQ).trans q0
        replace q1 := (h19.cell (p := ⟨bQ, oQ + 512, none⟩) lQ).trans q1
        replace lQ := Nat.lt_of_lt_of_le lQ h19.size
        rw [HV]
        clear zb
        go_wp2_with fail
        refine (awake_any _).mono ?_
        rintro e u20 ⟨rfl, h20⟩
        have ch23 := ch22.trans (h20.mono ch22.size)
        replace bt := bt.below h20 bt.lt
        replace bl := bl.below h20 bl.lt
        replace bs := bs.below h20 bs.lt
        replace bq := bq.below h20 bq.lt
        replace q0 := (h20.cell (p := ⟨bQ, oQ, none⟩) lQ).trans q0
        replace q1 := (h20.cell (p := ⟨bQ, oQ + 512, none⟩) lQ).trans q1
        replace lQ := Nat.lt_of_lt_of_le lQ h20.size
        go_wp2
        go_ret
        exact ⟨rfl, ch23⟩
end Go.Proofs.Ytgnidjhfiagfnaa
