/- The reference: Before. -/
import Derived.Test.YtpafnakepgjmnaaTi
namespace Go.Proofs.Ytpafnakepgjmnaa
open Go.RowKit Go.Lib Go.Shelf

theorem marks_keep {l : List Sp} {A : Option Addr} {n c : Nat} {w : World} (hn : l.length = n) (hm : n ≤ 4611686018427387904) (hv : Vd l) (hA : SpH w A l) :
    Calls Try.prog 57 #[.slice A n c] w fun e w' => (∃ g, e = .returned (.slice (some ⟨g, 0, none⟩) 65536 65536) ∧ Hid (Mk w' g (memB l))) ∧ Below w.heap.size w w' :=
  (marks_eq hn hm hv hA).mono fun _ _ ⟨g, h1, _, h3, h4⟩ => ⟨⟨g, h1, h3⟩, h4⟩
theorem cnt_bd (p : Int → Bool) (n : Nat) : 0 ≤ cnt p n ∧ cnt p n ≤ n := by
  induction n with
  | zero => simp [cnt]
  | succ n ih => rw [cnt]; cases p n <;> simp <;> omega

set_option maxRecDepth 100000 in
set_option maxRecDepth 100000 in
set_option maxHeartbeats 2000000 in
theorem before_ref (l : List Sp) (A : Option Addr) (n c : Nat) (day : Int) (w : World) (hn : Hid (l.length = n)) (hm : n ≤ 4611686018427387904) (hA : SpH w A l) :
    Calls Try.prog 41 #[.slice A n c, .int .i64 day] w fun e w' => e = .returned (.int .i64 (if IsSet l then befL l day else 0)) ∧ Below w.heap.size w w' := by
  have SA := hid hA
  clear hA
  by_cases hs : IsSet l
  · have HV := hid (validB_true.2 hs)
    have HS := hid hs
    rw [if_pos hs]
    clear hs
    go_enter Try.func41, Try.ntmps41
    go_wp2_with fail
    refine (valid_ref_eq (l := l) (r := true) HV.out hn hm SA.out).mono ?_
    rintro e w1 ⟨rfl, h⟩
    have HB := hid h
    clear h
    go_wp2_with fail
    refine (marks_keep (l := l) hn hm HS.out.vd (SA.out.below HB.out)).mono ?_
    rintro e w2 ⟨⟨g, rfl, HM⟩, h⟩
    have HB2 := hid (HB.out.trans (h.mono HB.out.size))
    clear h HB
    go_wp2
    generalize w2 = W0 at *
    obtain ⟨N, hN⟩ : ∃ N : Nat, Hid (N = 65536) := ⟨_, rfl⟩
    go_loop [6, 7] (fun v i => ∃ d : Nat, d ≤ 65536 ∧ i = .int .i64 d ∧ v = .int .i64 (cnt (memB l) d) ∧ Hid (d = 0 ∨ (d : Int) ≤ day)) (fun _ i => N - (intOf i).toNat)
    case atStart => exact ⟨0, by omega, rfl, rfl, .inl rfl⟩
    case round =>
      obtain ⟨d, hd, rfl, rfl, HD⟩ := hrel
      have hcb := cnt_bd (memB l) d
      obtain ⟨cb1, cb2⟩ := hcb
      obtain ⟨x, hx⟩ : ∃ x, cnt (memB l) d = x := ⟨_, rfl⟩
      have HX := hid hx
      rw [hx] at cb1 cb2 ⊢
      clear hx
      by_cases h6 : d < 65536
      · by_cases hdd : (d : Int) < day
        · have c1 := HM.out.cell h6
          obtain ⟨r, hr⟩ : ∃ r, memB l d = r := ⟨_, rfl⟩
          rw [hr] at c1
          have HR := hid hr
          have h6' : (d : Int) < 65536 := by omega
          have g1 : decide ((d : Int) < 65536) = true := decide_eq_true h6'
          have g2 : decide ((d : Int) < day) = true := decide_eq_true hdd
          have g3 : decide (d < 65536) = true := decide_eq_true h6
          clear hr
          cases r
          · have HC : Hid (cnt (memB l) (d + 1) = x) := by show _ = _; rw [cnt, HX.out, HR.out]; simp
            go_wp2
            go_round
            case rel => exact ⟨d + 1, by omega, by go_num, by rw [HC.out], .inr (by omega)⟩
            case measure => have := hN.out; simp [intOf]; omega
          · have HC : Hid (cnt (memB l) (d + 1) = x + 1) := by show _ = _; rw [cnt, HX.out, HR.out]; simp
            go_wp2
            go_round
            case rel => exact ⟨d + 1, by omega, by go_num, by rw [HC.out], .inr (by omega)⟩
            case measure => have := hN.out; simp [intOf]; omega
        · have h6' : (d : Int) < 65536 := by omega
          have g1 : decide ((d : Int) < 65536) = true := decide_eq_true h6'
          have g2 : decide ((d : Int) < day) = false := decide_eq_false hdd
          have g3 : decide (d < 65536) = true := decide_eq_true h6
          have HE : Hid (x = befL l day) := by
            show _ = _
            rw [← HX.out, HS.out.cnt_bef]
            rcases HD.out with h0 | h0
            · subst h0
              rw [SetFrom.bef_low HS.out (by omega), SetFrom.bef_low HS.out (by omega)]
            · rw [show (d : Int) = day by omega]
          go_wp2
          go_ret
          exact ⟨ret_int HE.out, HB2.out⟩
      · have h6' : ¬ (d : Int) < 65536 := by omega
        have g1 : decide ((d : Int) < 65536) = false := decide_eq_false h6'
        have g3 : decide (d < 65536) = false := decide_eq_false h6
        have HE : Hid (x = befL l day) := by
          show _ = _
          rw [← HX.out, HS.out.cnt_bef]
          rw [HS.out.bef_all (d := (d : Int)) (by omega), HS.out.bef_all (d := day) (by rcases HD.out with h | h <;> omega)]
        go_wp2
        go_ret
        exact ⟨ret_int HE.out, HB2.out⟩
  · have HV := hid (validB_false.2 hs)
    rw [if_neg hs]
    go_enter Try.func41, Try.ntmps41
    go_wp2_with fail
    refine (valid_ref_eq (l := l) (r := false) HV.out hn hm SA.out).mono ?_
    rintro e w1 ⟨rfl, h⟩
    have HB := hid h
    clear h
    go_wp2
    go_ret
    exact ⟨rfl, HB.out⟩
end Go.Proofs.Ytpafnakepgjmnaa
