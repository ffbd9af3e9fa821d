/- The number of days; the day of a number. -/
import Derived.Test.YtpafnakepgjmnaaSb
import Derived.Test.YtpafnakepgjmnaaSp2
namespace Go.Proofs.Ytpafnakepgjmnaa
open Go.RowKit Go.Lib

set_option maxRecDepth 100000 in
set_option maxHeartbeats 2000000 in
theorem count_any (l : List Sp) (A : Option Addr) (n c : Nat) (w : World) (hn : Hid (l.length = n)) (hs : Hid (IsSet l)) (hA : SpH w A l) :
    Calls Try.prog 49 #[.slice A n c] w fun e w' => e = .returned (.int .i64 (lenSum l)) ∧ Below w.heap.size w w' := by
  have hm : n ≤ 65536 := by have := hs.out.len_bd; rw [hn.out] at this; exact this
  go_enter Try.func49, Try.ntmps49
  go_wp2
  go_loopw [3, 8] (fun v i wr => ∃ k : Nat, k ≤ n ∧ i = .int .i64 k ∧ v = .int .i64 (lenSum (l.take k)) ∧ Below w.heap.size w wr) (fun _ i _ => n - (intOf i).toNat)
  case atStart => exact ⟨0, by omega, rfl, rfl, Below.refl _ _⟩
  case round =>
    obtain ⟨k, hk, rfl, rfl, hb⟩ := hrel
    have HB := hid hb
    by_cases hlt : k < n
    · obtain ⟨b, off, rfl, hbl, hc⟩ := hA.at_ hn.out (by omega)
      obtain ⟨x, hx⟩ : ∃ x, fr l k = x := ⟨_, rfl⟩
      obtain ⟨y, hy⟩ : ∃ y, tt l k = y := ⟨_, rfl⟩
      obtain ⟨S, hS⟩ : ∃ S, lenSum (l.take k) = S := ⟨_, rfl⟩
      have c0 := (hb.cell (p := ⟨b, off + k * 2, none⟩) hbl).trans (hc k hlt).1
      have c1 := (hb.cell (p := ⟨b, off + k * 2 + 1, none⟩) hbl).trans (hc k hlt).2
      have hat := hs.out.at_ (i := k) (by have := hn.out; omega)
      have hS1 := (hs.out.take k).sum_bd
      have HN : Hid (lenSum (l.take (k + 1)) = S + (y - x)) := by show _ = _; rw [lenSum_take (by have := hn.out; omega), hS, hx, hy]
      rw [hx] at c0 hat
      rw [hy] at c1 hat
      rw [hS] at hS1 ⊢
      obtain ⟨x0, xy, y6, _⟩ := hat
      obtain ⟨S0, S6⟩ := hS1
      clear hx hy hS hb hA hc
      go_wp2_with fail
      refine (length_any _ _ _ (by omega) (by omega) (by omega)).mono ?_
      rintro e w1 ⟨rfl, h1⟩
      have hb1 := HB.out.trans ((below_new h1).mono HB.out.size)
      clear h1
      go_wp2
      go_roundw
      case rel => exact ⟨k + 1, by omega, by go_num, by rw [HN.out], hb1⟩
      case measure => simp [intOf]; omega
    · go_wp2
      go_ret
      exact ⟨ret_int (by rw [List.take_of_length_le (by have := hn.out; omega)]), hb⟩

set_option maxRecDepth 100000 in
set_option maxHeartbeats 2000000 in
theorem days_yes (l : List Sp) (A : Option Addr) (n c : Nat) (w : World) (hn : Hid (l.length = n)) (hs : Hid (IsSet l)) (hA : SpH w A l) :
    Calls Try.prog 22 #[.slice A n c] w fun e w' => e = .returned (.int .i64 (lenSum l)) ∧ Below w.heap.size w w' := by
  have hm : n ≤ 65536 := by have := hs.out.len_bd; rw [hn.out] at this; exact this
  have HV := hid (validB_true.2 hs.out)
  have HA := hid hA
  clear hA
  go_enter Try.func22, Try.ntmps22
  go_wp2_with fail
  refine (valid_any l A n c _ hn (by omega) HA.out).mono ?_
  rintro e w1 ⟨rfl, h1⟩
  rw [HV.out]
  go_wp2_with fail
  refine (count_any l A n c _ hn hs (HA.out.below h1)).mono ?_
  rintro e w2 ⟨rfl, h2⟩
  go_wp2
  go_ret
  exact ⟨rfl, h1.trans (h2.mono h1.size)⟩
set_option maxRecDepth 100000 in
set_option maxHeartbeats 2000000 in
theorem days_no (l : List Sp) (A : Option Addr) (n c : Nat) (w : World) (hn : Hid (l.length = n)) (hm : n ≤ 4611686018427387904) (hs : ¬ IsSet l) (hA : SpH w A l) :
    Calls Try.prog 22 #[.slice A n c] w fun e w' => e = .returned (.int .i64 0) ∧ Below w.heap.size w w' := by
  have HV := hid (validB_false.2 hs)
  have HA := hid hA
  clear hA hs
  go_enter Try.func22, Try.ntmps22
  go_wp2_with fail
  refine (valid_any l A n c _ hn (by omega) HA.out).mono ?_
  rintro e w1 ⟨rfl, h1⟩
  rw [HV.out]
  go_wp2
  go_ret
  exact ⟨rfl, h1⟩

/-- What Nth returns. -/
def nthV (l : List Sp) (n : Int) : Int := if IsSet l ∧ 0 ≤ n then (nthL l n).getD 0 else 0
def nthB (l : List Sp) (n : Int) : Bool := if IsSet l ∧ 0 ≤ n then (nthL l n).isSome else false
def daysV (l : List Sp) : Int := if IsSet l then lenSum l else 0

theorem days_any (l : List Sp) (A : Option Addr) (n c : Nat) (w : World) (hn : Hid (l.length = n)) (hm : n ≤ 4611686018427387904) (hA : SpH w A l) :
    Calls Try.prog 22 #[.slice A n c] w fun e w' => e = .returned (.int .i64 (daysV l)) ∧ Below w.heap.size w w' := by
  by_cases hs : IsSet l
  · unfold daysV; rw [if_pos hs]; exact days_yes l A n c w hn hs hA
  · unfold daysV; rw [if_neg hs]; exact days_no l A n c w hn hm hs hA

set_option maxRecDepth 100000 in
set_option maxHeartbeats 2000000 in
theorem nth_yes (l : List Sp) (A : Option Addr) (n c : Nat) (d : Int) (w : World) (hn : Hid (l.length = n)) (hs : Hid (IsSet l)) (hd : 0 ≤ d) (hd2 : d ≤ 9223372036854775807) (hA : SpH w A l) :
    Calls Try.prog 28 #[.slice A n c, .int .i64 d] w fun e w' => e = .returned (.tuple #[.int .i64 ((nthL l d).getD 0), .bool (nthL l d).isSome]) ∧ Below w.heap.size w w' := by
  have hm : n ≤ 65536 := by have := hs.out.len_bd; rw [hn.out] at this; exact this
  have HV := hid (validB_true.2 hs.out)
  have HA := hid hA
  clear hA
  go_enter Try.func28, Try.ntmps28
  go_wp2_with fail
  refine (valid_any l A n c _ hn (by omega) HA.out).mono ?_
  rintro e w1 ⟨rfl, h1⟩
  rw [HV.out]
  have HD := hid h1
  clear h1
  go_wp2
  go_loopw [1, 17] (fun v i wr => ∃ (k : Nat) (x : Int), k ≤ n ∧ 0 ≤ x ∧ x ≤ d ∧ i = .int .i64 k ∧ v = .int .i64 x ∧ Hid (nthL l d = nthL (l.drop k) x) ∧ Below w.heap.size w wr) (fun _ i _ => n - (intOf i).toNat)
  case atStart => exact ⟨0, d, by omega, hd, Int.le_refl _, rfl, rfl, rfl, HD.out⟩
  case round =>
    obtain ⟨k, z, hk, hz0, hzd, rfl, rfl, HE, hb⟩ := hrel
    have HB := hid hb
    by_cases hlt : k < n
    · obtain ⟨b, off, rfl, hbl, hc⟩ := HA.out.at_ hn.out (by omega)
      obtain ⟨x, hx⟩ : ∃ x, fr l k = x := ⟨_, rfl⟩
      obtain ⟨y, hy⟩ : ∃ y, tt l k = y := ⟨_, rfl⟩
      have c0 := (hb.cell (p := ⟨b, off + k * 2, none⟩) hbl).trans (hc k hlt).1
      have c1 := (hb.cell (p := ⟨b, off + k * 2 + 1, none⟩) hbl).trans (hc k hlt).2
      have hat := hs.out.at_ (i := k) (by have := hn.out; omega)
      have he := nthL_drop (l := l) (k := k) (by have := hn.out; omega) z
      rw [hx, hy] at he
      rw [hx] at c0 hat
      rw [hy] at c1 hat
      obtain ⟨x0, xy, y6, _⟩ := hat
      have hea := HE.out
      rw [he] at hea
      have HE2 := hid hea
      clear hx hy hb hc he hea
      go_wp2_with fail
      refine (length_any _ _ _ (by omega) (by omega) (by omega)).mono ?_
      rintro e w1 ⟨rfl, h1⟩
      have b1 := (Blk.new wr 34 #[.int .i64 x, .int .i64 y]).below h1 (by simp)
      have hb1 := HB.out.trans ((below_new h1).mono HB.out.size)
      have q0 := (b1.cell 0).trans (b := some (Value.int .i64 x)) rfl
      have q1 := (b1.cell 1).trans (b := some (Value.int .i64 y)) rfl
      clear h1
      by_cases hg : z < y - x
      · have HF : Hid (nthL l d = some (x + z)) := by show _ = _; rw [HE2.out, if_pos hg]
        go_wp2
        go_ret2
        exact ⟨by rw [HF.out]; rfl, hb1⟩
      · have HF : Hid (nthL l d = nthL (l.drop (k + 1)) (z - (y - x))) := by show _ = _; rw [HE2.out, if_neg hg]
        go_wp2_with fail
        refine (length_any _ _ _ (by omega) (by omega) (by omega)).mono ?_
        rintro e w2 ⟨rfl, h2⟩
        have hb2 := hb1.trans (h2.mono hb1.size)
        clear h2
        go_wp2
        go_roundw
        case rel => exact ⟨k + 1, z - (y - x), by omega, by omega, by omega, by go_num, rfl, HF, hb2⟩
        case measure => simp [intOf]; omega
    · have HF : Hid (nthL l d = none) := by show _ = _; rw [HE.out, List.drop_eq_nil_of_le (by have := hn.out; omega)]; rfl
      go_wp2
      go_ret2
      exact ⟨by rw [HF.out]; rfl, hb⟩
set_option maxRecDepth 100000 in
set_option maxHeartbeats 2000000 in
theorem nth_no (l : List Sp) (A : Option Addr) (n c : Nat) (d : Int) (w : World) (hn : Hid (l.length = n)) (hm : n ≤ 4611686018427387904) (hs : ¬ (IsSet l ∧ 0 ≤ d)) (hA : SpH w A l) :
    Calls Try.prog 28 #[.slice A n c, .int .i64 d] w fun e w' => e = .returned (.tuple #[.int .i64 0, .bool false]) ∧ Below w.heap.size w w' := by
  have HA := hid hA
  clear hA
  cases hv : validB l
  · have HV := hid hv
    clear hv hs
    go_enter Try.func28, Try.ntmps28
    go_wp2_with fail
    refine (valid_any l A n c _ hn (by omega) HA.out).mono ?_
    rintro e w1 ⟨rfl, h1⟩
    rw [HV.out]
    go_wp2
    go_ret2
    exact ⟨rfl, h1⟩
  · have hd : d < 0 := by
      by_cases g : 0 ≤ d
      · exact absurd ⟨validB_true.1 hv, g⟩ hs
      · omega
    have HV := hid hv
    clear hv hs
    go_enter Try.func28, Try.ntmps28
    go_wp2_with fail
    refine (valid_any l A n c _ hn (by omega) HA.out).mono ?_
    rintro e w1 ⟨rfl, h1⟩
    rw [HV.out]
    go_wp2
    go_ret2
    exact ⟨rfl, h1⟩

theorem nth_any (l : List Sp) (A : Option Addr) (n c : Nat) (d : Int) (w : World) (hn : Hid (l.length = n)) (hm : n ≤ 4611686018427387904) (hd2 : d ≤ 9223372036854775807) (hA : SpH w A l) :
    Calls Try.prog 28 #[.slice A n c, .int .i64 d] w fun e w' => e = .returned (.tuple #[.int .i64 (nthV l d), .bool (nthB l d)]) ∧ Below w.heap.size w w' := by
  by_cases hs : IsSet l ∧ 0 ≤ d
  · unfold nthV nthB; rw [if_pos hs, if_pos hs]; exact nth_yes l A n c d w hn hs.1 hs.2 hd2 hA
  · unfold nthV nthB; rw [if_neg hs, if_neg hs]; exact nth_no l A n c d w hn hm hs hA
end Go.Proofs.Ytpafnakepgjmnaa
