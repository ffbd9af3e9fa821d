/- The reference: Has and Before. -/
import Derived.Test.YtpafnakepgjmnaaTh
import Derived.Test.YtpafnakepgjmnaaSp6
namespace Go.Proofs.Ytpafnakepgjmnaa
open Go.RowKit Go.Lib Go.Shelf

set_option maxRecDepth 100000 in
set_option maxHeartbeats 2000000 in
theorem has_ref (l : List Sp) (A : Option Addr) (n c : Nat) (d : Int) (w : World) (hn : Hid (l.length = n)) (hm : n ≤ 4611686018427387904) (hA : SpH w A l) :
    Calls Try.prog 40 #[.slice A n c, .int .i64 d] w fun e w' => e = .returned (.bool (validB l && memB l d)) ∧ Below w.heap.size w w' := by
  have SA := hid hA
  clear hA
  cases hv : validB l
  · have HV := hid hv
    clear hv
    go_enter Try.func40, Try.ntmps40
    go_wp2_with fail
    refine (valid_ref_eq (l := l) (r := false) HV.out hn hm SA.out).mono ?_
    rintro e w1 ⟨rfl, h⟩
    have HB := hid h
    clear h
    go_wp2
    go_ret
    exact ⟨rfl, HB.out⟩
  · have HV := hid hv
    have HS := hid (validB_true.1 hv)
    clear hv
    by_cases h0 : 0 ≤ d
    · by_cases h6 : d < 65536
      · obtain ⟨D, rfl⟩ := Int.eq_ofNat_of_zero_le h0
        obtain ⟨r, hr⟩ : ∃ r, memB l (D : Int) = r := ⟨_, rfl⟩
        have HR := hid hr
        rw [hr]
        have hD : D < 65536 := by omega
        clear hr h0
        go_enter Try.func40, Try.ntmps40
        go_wp2_with fail
        refine (valid_ref_eq (l := l) (r := true) HV.out hn hm SA.out).mono ?_
        rintro e w1 ⟨rfl, h⟩
        have HB := hid h
        clear h
        have g0 : decide (0 ≤ (D : Int)) = true := decide_eq_true (by omega)
        have g1 : decide ((D : Int) < 65536) = true := decide_eq_true (by omega)
        go_wp2_with fail
        refine (marks_eq (l := l) hn hm HS.out.vd (SA.out.below HB.out)).mono ?_
        rintro e w2 ⟨g, rfl, hg, hM, h⟩
        have HB2 := hid (HB.out.trans (h.mono HB.out.size))
        have c0 := hM.cell hD
        rw [HR.out] at c0
        clear h hM hg
        go_wp2
        go_ret
        exact ⟨by simp, HB2.out⟩
      · have HM : Hid (memB l d = false) := SetFrom.out HS.out (.inr (by omega))
        rw [HM.out]
        have g0 : decide (0 ≤ d) = true := decide_eq_true h0
        have g1 : decide (d < 65536) = false := decide_eq_false h6
        go_enter Try.func40, Try.ntmps40
        go_wp2_with fail
        refine (valid_ref_eq (l := l) (r := true) HV.out hn hm SA.out).mono ?_
        rintro e w1 ⟨rfl, h⟩
        have HB := hid h
        clear h
        go_wp2
        go_ret
        exact ⟨by simp, HB.out⟩
    · have HM : Hid (memB l d = false) := SetFrom.out HS.out (.inl (by omega))
      rw [HM.out]
      have g0 : decide (0 ≤ d) = false := decide_eq_false h0
      go_enter Try.func40, Try.ntmps40
      go_wp2_with fail
      refine (valid_ref_eq (l := l) (r := true) HV.out hn hm SA.out).mono ?_
      rintro e w1 ⟨rfl, h⟩
      have HB := hid h
      clear h
      go_wp2
      go_ret
      exact ⟨by simp, HB.out⟩
end Go.Proofs.Ytpafnakepgjmnaa
