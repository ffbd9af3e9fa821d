/- The reference: Nth. -/
import Derived.Test.YtpafnakepgjmnaaTj
namespace Go.Proofs.Ytpafnakepgjmnaa
open Go.RowKit Go.Lib Go.Shelf

/-- What Nth returns. -/
def nthO (l : List Sp) (d : Int) : Option Int := if IsSet l ∧ 0 ≤ d then nthL l d else none

set_option maxRecDepth 100000 in
set_option maxRecDepth 100000 in
set_option maxHeartbeats 2000000 in
theorem nth_ref_pos (l : List Sp) (A : Option Addr) (n c : Nat) (z : Int) (w : World) (hn : Hid (l.length = n)) (hm : n ≤ 4611686018427387904) (hA : SpH w A l) (hs : IsSet l) (hz : 0 ≤ z) (hz2 : z ≤ 9223372036854775807) :
    Calls Try.prog 38 #[.slice A n c, .int .i64 z] w fun e w' => e = .returned (.tuple #[.int .i64 ((nthL l z).getD 0), .bool (nthL l z).isSome]) ∧ Below w.heap.size w w' := by
  have SA := hid hA
  have HV := hid (validB_true.2 hs)
  have HS := hid hs
  clear hA hs
  go_enter Try.func38, Try.ntmps38
  go_wp2_with fail
  refine (valid_ref_eq (l := l) (r := true) HV.out hn hm SA.out).mono ?_
  rintro e w1 ⟨rfl, h⟩
  have HB := hid h
  clear h
  go_wp2_with fail
  refine (marks_keep (l := l) hn hm HS.out.vd (SA.out.below HB.out)).mono ?_
  rintro e w2 ⟨⟨g, rfl, HM⟩, h⟩
  have HB2 := hid (HB.out.trans (h.mono HB.out.size))
  clear h HB
  go_wp2
  generalize w2 = W0 at *
  obtain ⟨N, hN⟩ : ∃ N : Nat, Hid (N = 65536) := ⟨_, rfl⟩
  go_loop [1, 7] (fun v i => ∃ (d : Nat) (x : Int), d ≤ 65536 ∧ i = .int .i64 d ∧ v = .int .i64 x ∧ 0 ≤ x ∧ x ≤ 9223372036854775807 ∧ Hid (cnt (memB l) d + x = z)) (fun _ i => N - (intOf i).toNat)
  case atStart => exact ⟨0, z, by omega, rfl, rfl, hz, hz2, by show _ = _; simp [cnt]⟩
  case round =>
    obtain ⟨d, x, hd, rfl, rfl, hx0, hx1, HX⟩ := hrel
    by_cases h6 : d < 65536
    · have c1 := HM.out.cell h6
      obtain ⟨r, hr⟩ : ∃ r, memB l d = r := ⟨_, rfl⟩
      rw [hr] at c1
      have HR := hid hr
      have h6' : (d : Int) < 65536 := by omega
      clear hr
      cases r
      · have HC : Hid (cnt (memB l) (d + 1) + x = z) := by show _ = _; rw [cnt, HR.out]; simpa using HX.out
        go_wp2
        go_round
        case rel => exact ⟨d + 1, x, by omega, by go_num, rfl, hx0, hx1, HC⟩
        case measure => have := hN.out; simp [intOf]; omega
      · by_cases hx : x = 0
        · have HE : Hid (nthL l z = some (d : Int)) := by
            show _ = _
            have h1 := HX.out
            rw [hx, Int.add_zero, HS.out.cnt_bef] at h1
            rw [← h1]
            exact nthL_bef HS.out HR.out
          have hbe : (x == 0) = true := by rw [hx]; rfl
          clear hx
          go_wp2
          go_ret2
          exact ⟨by rw [HE.out]; rfl, HB2.out⟩
        · have hbe : (x == 0) = false := by rw [beq_eq_false_iff_ne]; exact hx
          have HC : Hid (cnt (memB l) (d + 1) + (x - 1) = z) := by show _ = _; rw [cnt, HR.out]; have := HX.out; simp; omega
          have hx2 : 0 ≤ x - 1 := by omega
          go_wp2
          go_round
          case rel => exact ⟨d + 1, x - 1, by omega, by go_num, rfl, hx2, by omega, HC⟩
          case measure => have := hN.out; simp [intOf]; omega
    · have h6' : ¬ (d : Int) < 65536 := by omega
      have HE : Hid (nthL l z = none) := by
        show _ = _
        refine (nthL_none HS.out hz).2 ?_
        have h1 := HX.out
        rw [HS.out.cnt_bef, HS.out.bef_all (by omega)] at h1
        omega
      go_wp2
      go_ret2
      exact ⟨by rw [HE.out]; rfl, HB2.out⟩
end Go.Proofs.Ytpafnakepgjmnaa
