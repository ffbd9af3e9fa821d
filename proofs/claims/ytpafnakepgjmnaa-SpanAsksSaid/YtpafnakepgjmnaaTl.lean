/- The reference: Nth of a number below 0, and of no set. -/
import Derived.Test.YtpafnakepgjmnaaTk
namespace Go.Proofs.Ytpafnakepgjmnaa
open Go.RowKit Go.Lib Go.Shelf

set_option maxRecDepth 100000 in
set_option maxRecDepth 100000 in
set_option maxHeartbeats 2000000 in
theorem nth_ref_neg (l : List Sp) (A : Option Addr) (n c : Nat) (z : Int) (w : World) (hn : Hid (l.length = n)) (hm : n ≤ 4611686018427387904) (hA : SpH w A l) (hs : IsSet l) (hz : z < 0) (hz2 : -9223372036854775808 ≤ z) :
    Calls Try.prog 38 #[.slice A n c, .int .i64 z] w fun e w' => e = .returned (.tuple #[.int .i64 0, .bool false]) ∧ Below w.heap.size w w' := by
  have SA := hid hA
  have HV := hid (validB_true.2 hs)
  have HS := hid hs
  clear hA hs
  go_enter Try.func38, Try.ntmps38
  go_wp2_with fail
  refine (valid_ref_eq (l := l) (r := true) HV.out hn hm SA.out).mono ?_
  rintro e w1 ⟨rfl, h⟩
  have HB := hid h
  clear h
  go_wp2_with fail
  refine (marks_keep (l := l) hn hm HS.out.vd (SA.out.below HB.out)).mono ?_
  rintro e w2 ⟨⟨g, rfl, HM⟩, h⟩
  have HB2 := hid (HB.out.trans (h.mono HB.out.size))
  clear h HB
  go_wp2
  generalize w2 = W0 at *
  obtain ⟨N, hN⟩ : ∃ N : Nat, Hid (N = 65536) := ⟨_, rfl⟩
  go_loop [1, 7] (fun v i => ∃ (d : Nat) (x : Int), d ≤ 65536 ∧ i = .int .i64 d ∧ v = .int .i64 x ∧ Hid ((-9223372036854775808 ≤ x ∧ x < 0) ∨ (9223372036854775807 - (d : Int) < x ∧ x ≤ 9223372036854775807))) (fun _ i => N - (intOf i).toNat)
  case atStart => exact ⟨0, z, by omega, rfl, rfl, .inl ⟨hz2, hz⟩⟩
  case round =>
    obtain ⟨d, x, hd, rfl, rfl, HX⟩ := hrel
    by_cases h6 : d < 65536
    · have c1 := HM.out.cell h6
      obtain ⟨r, hr⟩ : ∃ r, memB l d = r := ⟨_, rfl⟩
      rw [hr] at c1
      have HR := hid hr
      have h6' : (d : Int) < 65536 := by omega
      clear hr
      cases r
      · have HC : Hid ((-9223372036854775808 ≤ x ∧ x < 0) ∨ (9223372036854775807 - ((d + 1 : Nat) : Int) < x ∧ x ≤ 9223372036854775807)) := by
          show _ ∨ _
          rcases HX.out with h | h
          · exact .inl h
          · exact .inr ⟨by omega, h.2⟩
        go_wp2
        go_round
        case rel => exact ⟨d + 1, x, by omega, by go_num, rfl, HC⟩
        case measure => have := hN.out; simp [intOf]; omega
      · have hx0 : x ≠ 0 := by rcases HX.out with h | h <;> omega
        have hbe : (x == 0) = false := by rw [beq_eq_false_iff_ne]; exact hx0
        obtain ⟨y, hy, HC⟩ : ∃ y, IntKind.i64.wrap (x - 1) = y ∧ Hid ((-9223372036854775808 ≤ y ∧ y < 0) ∨ (9223372036854775807 - ((d + 1 : Nat) : Int) < y ∧ y ≤ 9223372036854775807)) := by
          refine ⟨_, rfl, ?_⟩
          show _ ∨ _
          rw [IntKind.wrap_i64]
          rcases HX.out with h | h <;> omega
        have hy2 : (x - 1 + 9223372036854775808) % 18446744073709551616 - 9223372036854775808 = y := by rw [← hy, IntKind.wrap_i64]
        clear hx0
        go_wp2
        go_round
        case rel => exact ⟨d + 1, y, by omega, by go_num, rfl, HC⟩
        case measure => have := hN.out; simp [intOf]; omega
    · have h6' : ¬ (d : Int) < 65536 := by omega
      go_wp2
      go_ret2
      exact ⟨rfl, HB2.out⟩

set_option maxRecDepth 100000 in
set_option maxHeartbeats 2000000 in
theorem nth_ref_no (l : List Sp) (A : Option Addr) (n c : Nat) (z : Int) (w : World) (hn : Hid (l.length = n)) (hm : n ≤ 4611686018427387904) (hA : SpH w A l) (hs : ¬ IsSet l) :
    Calls Try.prog 38 #[.slice A n c, .int .i64 z] w fun e w' => e = .returned (.tuple #[.int .i64 0, .bool false]) ∧ Below w.heap.size w w' := by
  have SA := hid hA
  have HV := hid (validB_false.2 hs)
  clear hA hs
  go_enter Try.func38, Try.ntmps38
  go_wp2_with fail
  refine (valid_ref_eq (l := l) (r := false) HV.out hn hm SA.out).mono ?_
  rintro e w1 ⟨rfl, h⟩
  have HB := hid h
  clear h
  go_wp2
  go_ret2
  exact ⟨rfl, HB.out⟩

theorem nth_ref (l : List Sp) (A : Option Addr) (n c : Nat) (z : Int) (w : World) (hn : Hid (l.length = n)) (hm : n ≤ 4611686018427387904) (hA : SpH w A l) (hz1 : -9223372036854775808 ≤ z) (hz2 : z ≤ 9223372036854775807) :
    Calls Try.prog 38 #[.slice A n c, .int .i64 z] w fun e w' => e = .returned (.tuple #[.int .i64 (nthV l z), .bool (nthB l z)]) ∧ Below w.heap.size w w' := by
  unfold nthV nthB
  by_cases hs : IsSet l
  · by_cases hz : 0 ≤ z
    · rw [if_pos ⟨hs, hz⟩, if_pos ⟨hs, hz⟩]; exact nth_ref_pos l A n c z w hn hm hA hs hz hz2
    · rw [if_neg (fun h => hz h.2), if_neg (fun h => hz h.2)]; exact nth_ref_neg l A n c z w hn hm hA hs (by omega) hz1
  · rw [if_neg (fun h => hs h.1), if_neg (fun h => hs h.1)]; exact nth_ref_no l A n c z w hn hm hA hs
end Go.Proofs.Ytpafnakepgjmnaa
