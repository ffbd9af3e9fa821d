/- The operations on small numbers, by their values. Conditions: the numbers fit into words. -/
import Derived.Test.YtgnidjhfiagfnaaXb
namespace Go.Proofs.Ytgnidjhfiagfnaa
open Go.RowKit

theorem WhZ.below {w w' : World} {v : Value} {z : Int} (h : WhZ w v z) (hb : Below w.heap.size w w') : WhZ w' v z := Wh.below h hb

theorem zv_whz (z : Int) : zv (decide (z < 0)) (digs z.natAbs) = z := by
  unfold zv
  rw [val_digs]
  by_cases h : z < 0
  · rw [decide_eq_true h, if_pos rfl]; omega
  · rw [decide_eq_false h, if_neg (by simp)]; omega

theorem valid_z {z : Int} (h : (digs z.natAbs).length ≤ 1024) : validB (decide (z < 0)) (digs z.natAbs) = true := by
  unfold validB
  by_cases h0 : (digs z.natAbs).length = 0
  · rw [if_pos h0]
    have : z.natAbs = 0 := digs_eq_nil.1 (List.eq_nil_of_length_eq_zero h0)
    simp; omega
  · rw [if_neg h0]
    refine decide_eq_true ⟨h, ?_⟩
    exact norm_last (norm_digs _) (fun e => h0 (by rw [e]; rfl))

/-- It fits into a word. -/
def Sm (z : Int) : Prop := z.natAbs < 18446744073709551616
theorem Sm.len {z : Int} (h : Sm z) : (digs z.natAbs).length ≤ 4 := digs_length (by unfold Sm at h; omega)
theorem Sm.ok {z : Int} (h : Sm z) : validB (decide (z < 0)) (digs z.natAbs) = true := valid_z (by have := h.len; omega)

theorem add_z {w : World} {va vb : Value} {y z : Int} (hA : WhZ w va y) (hB : WhZ w vb z) (hy : Sm y) (hz : Sm z) (h : Sm (y + z)) :
    Calls Try.prog 13 #[va, vb] w fun e w' => ∃ v, e = .returned (.tuple #[v, .int .i64 0]) ∧ WhZ w' v (y + z) ∧ Below w.heap.size w w' := by
  have := add_wh hA hB
  rw [hy.ok, hz.ok, zv_whz, zv_whz] at this
  have hl := h.len
  unfold code resz at this
  simp only [Bool.and_self, if_true] at this
  rw [if_pos (by omega), if_pos (by omega)] at this
  exact this

theorem add_inv {w : World} {va vb : Value} {x y : Bool} {la lb : List Nat} (hA : Wh w va x la) (hB : Wh w vb y lb) (h : (validB x la && validB y lb) = false) :
    Calls Try.prog 13 #[va, vb] w fun e w' => ∃ v, e = .returned (.tuple #[v, .int .i64 2]) ∧ WhZ w' v 0 ∧ Below w.heap.size w w' := by
  have := add_wh hA hB
  rw [h] at this
  exact this
theorem sub_inv {w : World} {va vb : Value} {x y : Bool} {la lb : List Nat} (hA : Wh w va x la) (hB : Wh w vb y lb) (h : (validB x la && validB y lb) = false) :
    Calls Try.prog 14 #[va, vb] w fun e w' => ∃ v, e = .returned (.tuple #[v, .int .i64 2]) ∧ WhZ w' v 0 ∧ Below w.heap.size w w' := by
  have := sub_wh hA hB
  rw [h] at this
  exact this
theorem mul_inv {w : World} {va vb : Value} {x y : Bool} {la lb : List Nat} (hA : Wh w va x la) (hB : Wh w vb y lb) (h : (validB x la && validB y lb) = false) :
    Calls Try.prog 15 #[va, vb] w fun e w' => ∃ v, e = .returned (.tuple #[v, .int .i64 2]) ∧ WhZ w' v 0 ∧ Below w.heap.size w w' := by
  obtain ⟨A, ca, rfl, sa⟩ := hA
  obtain ⟨B, cb, rfl, sb⟩ := hB
  have := mulF_any 0 (fun hx hy => by rw [hx, hy] at h; cases h) sa sb rfl rfl
  rw [h] at this
  exact this
theorem gcd_inv {w : World} {va vb : Value} {x y : Bool} {la lb : List Nat} (hA : Wh w va x la) (hB : Wh w vb y lb) (h : (validB x la && validB y lb) = false) :
    Calls Try.prog 36 #[va, vb] w fun e w' => ∃ v, e = .returned (.tuple #[v, .int .i64 2]) ∧ WhZ w' v 0 ∧ Below w.heap.size w w' := by
  have := gcd_wh hA hB (fun hx hy => by rw [hx, hy] at h; cases h)
  rw [h] at this
  exact this

theorem divmod_z {w : World} {va vb : Value} {y z : Int} (hA : WhZ w va y) (hB : WhZ w vb z) (hy : Sm y) (hz : z.natAbs < 65536) (h0 : z ≠ 0) :
    Calls Try.prog 29 #[va, vb] w fun e w' => ∃ q r, e = .returned (.tuple #[q, r, .int .i64 0]) ∧ WhZ w' q (sgn (decide (y < 0) != decide (z < 0)) (qN (decide (y < 0)) (decide (z < 0)) y.natAbs z.natAbs)) ∧ WhZ w' r (sgn (decide (z < 0)) (rN (decide (y < 0)) (decide (z < 0)) y.natAbs z.natAbs)) ∧ Below w.heap.size w w' := by
  have hsz : Sm z := by unfold Sm; omega
  have hne : digs z.natAbs ≠ [] := fun e => h0 (by have := digs_eq_nil.1 e; omega)
  have hl : (digs z.natAbs).length ≤ 1 := digs_length (by omega)
  have hl1 : (digs z.natAbs).length = 1 := by
    rcases Nat.eq_zero_or_pos (digs z.natAbs).length with h | h
    · exact absurd (List.eq_nil_of_length_eq_zero h) hne
    · omega
  have hd := divc_small (norm_digs y.natAbs) (norm_digs z.natAbs) (by have := hy.len; omega) (by omega) hne (.inl hl1)
  have := divmod_ok hA hB (by rw [hy.ok, hsz.ok]; rfl) hne hd
  rw [val_digs, val_digs] at this
  exact this

theorem gcd_z {w : World} {va vb : Value} {y z : Int} (hA : WhZ w va y) (hB : WhZ w vb z) (hy : Sm y) (hz : Sm z) (hg : Sm (Nat.gcd y.natAbs z.natAbs)) :
    Calls Try.prog 36 #[va, vb] w fun e w' => ∃ v, e = .returned (.tuple #[v, .int .i64 0]) ∧ WhZ w' v (Nat.gcd y.natAbs z.natAbs) ∧ Below w.heap.size w w' := by
  have := gcd_wh hA hB (fun _ _ => gcdc_small (norm_digs _) (norm_digs _) hy.len hz.len)
  rw [hy.ok, hz.ok, val_digs, val_digs] at this
  have hl := hg.len
  unfold code resz at this
  simp only [Bool.and_self, if_true] at this
  rw [if_pos (by omega), if_pos (by omega)] at this
  exact this

theorem tens_10 : tens 10 = [0, 1] := by
  unfold tens
  rw [if_neg (by decide), ddigs_pos (by decide), show 10 / 10 = 1 from rfl, ddigs_pos (by decide), show 1 / 10 = 0 from rfl, ddigs_zero]
theorem form_10 : strOfNums (asInts (form true (val (digs 10)))) = ⟨#[45, 49, 48]⟩ := by
  rw [val_digs]
  unfold form
  rw [tens_10]
  rfl

theorem text_m10 {w : World} {v : Value} (h : WhZ w v (-10)) :
    Calls Try.prog 21 #[v] w fun e w' => e = .returned (.tuple #[.string ⟨#[45, 49, 48]⟩, .int .i64 0]) ∧ Below w.heap.size w w' := by
  have := text_wh h (Sm.ok (by unfold Sm; decide))
  have e : decide ((-10 : Int) < 0) = true := rfl
  rw [e, show (-10 : Int).natAbs = 10 from rfl, form_10] at this
  exact this

/-- A variable that holds a number. -/
def Held (W : World) (B : Nat) (z : Int) : Prop := ∃ (A : Option Addr) (n c : Nat), Blk W B 26 #[.bool (decide (z < 0)), .slice A n c] ∧ WhZ W (.agg #[.bool (decide (z < 0)), .slice A n c]) z
theorem Held.below {W W' : World} {B : Nat} {z : Int} (h : Held W B z) (hb : Below W.heap.size W W') : Held W' B z := by
  obtain ⟨A, n, c, h1, h2⟩ := h
  exact ⟨A, n, c, h1.below hb h1.lt, h2.below hb⟩
theorem Held.new {W : World} {z : Int} {A : Option Addr} {n c : Nat} (h : WhZ W (.agg #[.bool (decide (z < 0)), .slice A n c]) z) : Held (W.alloc (.cells #[.bool (decide (z < 0)), .slice A n c] 26)) W.heap.size z :=
  ⟨A, n, c, Blk.new W 26 _, h.below ((Below.refl _ _).alloc (Nat.le_refl _) _)⟩
end Go.Proofs.Ytgnidjhfiagfnaa
