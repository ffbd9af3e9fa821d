/- Validity of one and of several numbers, and sums for numbers with signs. Conditions: the limbs are in memory. -/
import Derived.Test.YtgnidjhfiagfnaaWi
namespace Go.Proofs.Ytgnidjhfiagfnaa
open Go.RowKit

/-- A value that holds a sign and limbs. -/
def Wh (w : World) (v : Value) (x : Bool) (l : List Nat) : Prop := ∃ A c, v = .agg #[.bool x, .slice A l.length c] ∧ Sl w (.slice A l.length c) l

theorem Wh.below {w w' : World} {v : Value} {x : Bool} {l : List Nat} (h : Wh w v x l) (hb : Below w.heap.size w w') : Wh w' v x l := by
  obtain ⟨A, c, rfl, hs⟩ := h
  exact ⟨A, c, rfl, hs.below hb⟩

theorem whz_iff {w : World} {v : Value} {z : Int} : WhZ w v z ↔ Wh w v (decide (z < 0)) (digs z.natAbs) := Iff.rfl

theorem zv_same (x : Bool) (la lb : List Nat) : zv x la + zv x lb = if x then -((val la + val lb : Nat) : Int) else ((val la + val lb : Nat) : Int) := by
  cases x <;> simp [zv] <;> omega

theorem signed_z {w : World} {x : Bool} {m : Nat} {z : Int} {A : Option Addr} {c : Nat} (hz : z = if x then -(m : Int) else (m : Int)) (hs : Sl w (.slice A (digs m).length c) (digs m)) :
    WhZ w (.agg #[.bool (x && decide (0 < (digs m).length)), .slice A (digs m).length c]) z := by
  have hm : z.natAbs = m := by subst hz; cases x <;> simp
  have hx : (x && decide (0 < (digs m).length)) = decide (z < 0) := by rw [sum_pos_sign, hz]
  unfold WhZ
  rw [hm]
  exact ⟨A, c, by rw [hx], hs⟩

theorem sum_wh {w : World} {va vb : Value} {x y : Bool} {la lb : List Nat} (hA : Wh w va x la) (hB : Wh w vb y lb) (ha : la.length ≤ 4000) (hb : lb.length ≤ 4000) (hna : Norm la) (hnb : Norm lb) :
    Calls Try.prog 39 #[va, vb] w fun e w' => ∃ v, e = .returned v ∧ WhZ w' v (zv x la + zv y lb) ∧ Below w.heap.size w w' := by
  obtain ⟨A, ca, rfl, sa⟩ := hA
  obtain ⟨B, cb, rfl, sb⟩ := hB
  by_cases hxy : x = y
  · subst hxy
    refine (sum_same x la lb A B _ _ ca cb w sa sb ha hb).mono ?_
    rintro e w' ⟨A', c', rfl, hs, hbel⟩
    exact ⟨_, rfl, signed_z (zv_same x la lb) hs, hbel⟩
  · by_cases hle : val lb ≤ val la
    · have key : Calls Try.prog 39 #[.agg #[.bool x, .slice A la.length ca], .agg #[.bool y, .slice B lb.length cb]] w fun e w' => ∃ A' c', e = .returned (.agg #[.bool (x && decide (0 < (digs (val la - val lb)).length)), .slice A' (digs (val la - val lb)).length c']) ∧ Sl w' (.slice A' (digs (val la - val lb)).length c') (digs (val la - val lb)) ∧ Below w.heap.size w w' := by
        cases x <;> cases y <;> first | exact absurd rfl hxy | exact sum_nk la lb A B _ _ ca cb w sa sb ha hb hna hnb hle | exact sum_pk la lb A B _ _ ca cb w sa sb ha hb hna hnb hle
      refine key.mono ?_
      rintro e w' ⟨A', c', rfl, hs, hbel⟩
      refine ⟨_, rfl, signed_z ?_ hs, hbel⟩
      cases x <;> cases y <;> first | exact absurd rfl hxy | (simp [zv]; omega)
    · have key : Calls Try.prog 39 #[.agg #[.bool x, .slice A la.length ca], .agg #[.bool y, .slice B lb.length cb]] w fun e w' => ∃ A' c', e = .returned (.agg #[.bool (y && decide (0 < (digs (val lb - val la)).length)), .slice A' (digs (val lb - val la)).length c']) ∧ Sl w' (.slice A' (digs (val lb - val la)).length c') (digs (val lb - val la)) ∧ Below w.heap.size w w' := by
        cases x <;> cases y <;> first | exact absurd rfl hxy | exact sum_ns la lb A B _ _ ca cb w sa sb ha hb hna hnb (by omega) | exact sum_ps la lb A B _ _ ca cb w sa sb ha hb hna hnb (by omega)
      refine key.mono ?_
      rintro e w' ⟨A', c', rfl, hs, hbel⟩
      refine ⟨_, rfl, signed_z ?_ hs, hbel⟩
      cases x <;> cases y <;> first | exact absurd rfl hxy | (simp [zv]; omega)

theorem valid_wh {w : World} {v : Value} {x : Bool} {l : List Nat} (h : Wh w v x l) :
    Calls Try.prog 20 #[v] w fun e w' => e = .returned (.bool (validB x l)) ∧ Below w.heap.size w w' := by
  obtain ⟨A, c, rfl, h1, h2, A', c', h3, _, _, h4⟩ := h
  injection h3 with e1 _ e2
  subst e1 e2
  unfold validB
  by_cases h0 : l.length = 0
  · rw [if_pos h0, h0]
    exact valid_none x A c w
  · rw [if_neg h0]
    obtain ⟨b, off, rfl, k2, k3⟩ := h4.cells (by omega)
    obtain ⟨m, hm⟩ : ∃ m, l.length = m + 1 := ⟨l.length - 1, by omega⟩
    have := valid_some x m (nth l m) b off c w (by omega) k2 (k3 m (by omega)) (nth_lt h1 m)
    rw [hm]
    refine this.mono ?_
    rintro e w' ⟨rfl, hb⟩
    refine ⟨ret_bool ?_, hb⟩
    simp only [Nat.add_sub_cancel, Nat.add_one_le_iff]

/-- Whether the first n numbers are valid. -/
def allV (X : Nat → Bool) (L : Nat → List Nat) : Nat → Bool
  | 0 => true
  | n + 1 => allV X L n && validB (X n) (L n)
theorem allV_false {X : Nat → Bool} {L : Nat → List Nat} {k n : Nat} (h : validB (X k) (L k) = false) (hk : k < n) : allV X L n = false := by
  induction n with
  | zero => omega
  | succ n ih =>
    unfold allV
    rcases Nat.lt_or_ge k n with h1 | h1
    · rw [ih h1]; rfl
    · obtain rfl : k = n := by omega
      rw [h]; simp

set_option maxRecDepth 100000 in
set_option maxHeartbeats 400000 in
theorem allValid_any (n M : Nat) (X : Nat → Bool) (L : Nat → List Nat) (_V : Nat → Value) (w : World) (hn : n ≤ 1000) (hM : M < w.heap.size) (hc : ∀ j, j < n → ∃ A c, Sl w (.slice A (L j).length c) (L j) ∧ w.cell? ⟨M, j * 2, none⟩ = some (.bool (X j)) ∧ w.cell? ⟨M, j * 2 + 1, none⟩ = some (.slice A (L j).length c)) :
    Calls Try.prog 48 #[.slice (some ⟨M, 0, none⟩) n n] w fun e w' => e = .returned (.bool (allV X L n)) ∧ Below w.heap.size w w' := by
  have HC := hc
  have HH : Hid (∀ j, j < n → ∃ A c, Sl w (.slice A (L j).length c) (L j) ∧ w.cell? ⟨M, j * 2, none⟩ = some (.bool (X j)) ∧ w.cell? ⟨M, j * 2 + 1, none⟩ = some (.slice A (L j).length c)) := HC
  clear HC hc
  go_enter Try.func48, Try.ntmps48
  go_wp2
  go_loopw [7] (fun i wr => ∃ k : Nat, k ≤ n ∧ i = .int .i64 k ∧ Below w.heap.size w wr ∧ Hid (allV X L k = true)) (fun i _ => n - (intOf i).toNat)
  case atStart => exact ⟨0, by omega, rfl, Below.refl _ _, rfl⟩
  case round =>
    obtain ⟨k, hk, rfl, hbel, HV⟩ := hrel
    by_cases hlt : k < n
    · obtain ⟨A, c, hsl, g1, g2⟩ := HH.out k hlt
      have q1 := (hbel.cell (p := ⟨M, k * 2, none⟩) hM).trans g1
      have q2 := (hbel.cell (p := ⟨M, k * 2 + 1, none⟩) hM).trans g2
      have hM2 := Nat.lt_of_lt_of_le hM hbel.size
      have hwh : Wh (wr.alloc (.cells #[.bool (X k), .slice A (L k).length c] 26)) (.agg #[.bool (X k), .slice A (L k).length c]) (X k) (L k) := ⟨A, c, rfl, (hsl.below hbel).below (by repeat (first | exact Below.refl _ _ | assumption | refine Below.alloc ?_ (by first | (simp; done) | (simp; omega) | omega) _ | refine Below.setCell ?_ (by first | (simp; done) | (simp; omega) | omega) _ | refine Below.drew ?_))⟩
      have hv := valid_wh hwh
      cases hvb : validB (X k) (L k) with
      | true =>
        rw [hvb] at hv
        have H2 : Hid (Calls Try.prog 20 #[.agg #[.bool (X k), .slice A (L k).length c]] (wr.alloc (.cells #[.bool (X k), .slice A (L k).length c] 26)) fun e w' => e = .returned (.bool true) ∧ Below (wr.alloc (.cells #[.bool (X k), .slice A (L k).length c] 26)).heap.size (wr.alloc (.cells #[.bool (X k), .slice A (L k).length c] 26)) w') := hv
        have H3 : Hid (allV X L (k + 1) = true) := by show (allV X L k && validB (X k) (L k)) = true; rw [HV.out, hvb]; rfl
        clear hv hvb hwh hsl
        go_wp2_with (go_at_call 20; refine H2.out.mono ?_; rintro e w2 ⟨rfl, hb2⟩)
        go_roundw
        case rel => exact ⟨k + 1, by omega, by go_num, hbel.trans ((((Below.refl wr.heap.size wr).alloc (Nat.le_refl _) _).trans (hb2.mono (by simp))).mono hbel.size), H3⟩
        case measure => simp [intOf]; omega
      | false =>
        rw [hvb] at hv
        have H2 : Hid (Calls Try.prog 20 #[.agg #[.bool (X k), .slice A (L k).length c]] (wr.alloc (.cells #[.bool (X k), .slice A (L k).length c] 26)) fun e w' => e = .returned (.bool false) ∧ Below (wr.alloc (.cells #[.bool (X k), .slice A (L k).length c] 26)).heap.size (wr.alloc (.cells #[.bool (X k), .slice A (L k).length c] 26)) w') := hv
        have H3 : Hid (allV X L n = false) := allV_false hvb hlt
        clear hv hvb hwh hsl
        go_wp2_with (go_at_call 20; refine H2.out.mono ?_; rintro e w2 ⟨rfl, hb2⟩)
        go_ret
        exact ⟨by rw [H3.out]; rfl, hbel.trans ((((Below.refl wr.heap.size wr).alloc (Nat.le_refl _) _).trans (hb2.mono (by simp))).mono hbel.size)⟩
    · obtain rfl : k = n := by omega
      go_wp2
      go_ret
      exact ⟨by rw [HV.out]; rfl, hbel⟩
end Go.Proofs.Ytgnidjhfiagfnaa
