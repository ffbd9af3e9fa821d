/- SpanMakes' function returns true. -/
import Derived.Test.YtpafnakepgjmnaaTf
import Derived.Test.YtpafnakepgjmnaaTg
import Derived.Test.YtpafnakepgjmnaaAw
namespace Go.Proofs.Ytpafnakepgjmnaa
open Go.RowKit Go.Lib Go.Shelf

theorem make_same {l : List Sp} {A : Option Addr} {n c : Nat} {w : World} {R : List Sp} {E : Int} (hn : l.length = n) (hm : n ≤ 8796093022000) (hA : SpH w A l) (hR : mkR l = R) (hE : mkE l = E) :
    Calls Try.prog 26 #[.slice A n c] w (RetSpE w R E) := by
  rw [← hR, ← hE]
  by_cases h : ∀ i, i < l.length → okB (fr l i) (tt l i) = true
  · unfold mkR mkE
    rw [if_pos h, if_pos h]
    exact make_yes l A n c w hn hm (vd_of h) hA
  · unfold mkR mkE
    rw [if_neg h, if_neg h]
    exact make_no l A n c w hn (by omega) (fun hv => h (ok_of hv)) hA
theorem make_ref_eq {l : List Sp} {A : Option Addr} {n c : Nat} {w : World} {R : List Sp} {E : Int} (hn : l.length = n) (hm : n ≤ 4611686018427387904) (hA : SpH w A l) (hR : mkR l = R) (hE : mkE l = E) :
    Calls Try.prog 33 #[.slice A n c] w (RetSpE w R E) := by
  rw [← hR, ← hE]; exact make_ref l A n c w hn hm hA
theorem valid_ref_eq {l : List Sp} {A : Option Addr} {n c : Nat} {w : World} {r : Bool} (hr : validB l = r) (hn : l.length = n) (hm : n ≤ 4611686018427387904) (hA : SpH w A l) :
    Calls Try.prog 34 #[.slice A n c] w fun e w' => e = .returned (.bool r) ∧ Below w.heap.size w w' := by
  rw [← hr]; exact valid_ref l A n c w hn hm hA

set_option maxRecDepth 100000 in
set_option maxHeartbeats 8000000 in
theorem makes_any (l : List Sp) (A : Option Addr) (n c : Nat) (w : World) (hn : Hid (l.length = n)) (hm : n ≤ 100) (hA : SpH w A l) (hN : A = none → n = 0 ∧ c = 0) :
    Calls Try.prog 12 #[.slice A n c] w fun e w' => e = .returned (.bool true) ∧ Below w.heap.size w w' := by
  have SA := hid hA
  have HN := hid hN
  obtain ⟨R, HR⟩ : ∃ R, Hid (mkR l = R) := ⟨_, rfl⟩
  obtain ⟨E, HE⟩ : ∃ E, Hid (mkE l = E) := ⟨_, rfl⟩
  obtain ⟨vb2, HV⟩ : ∃ r, Hid (validB l = r) := ⟨_, rfl⟩
  clear hA hN
  go_enter Try.func12, Try.ntmps12
  have hRb : R.length ≤ 65536 := by rw [← HR.out]; unfold mkR; split; exact (norm_set _).len_bd; simp
  go_wp2_with fail
  refine (lent_any l A n c _ hn (by omega) SA.out HN.out).mono ?_
  rintro e w1 ⟨g, rfl, hl, h⟩
  have HB1 := hid h
  have hgl : g < w1.heap.size := hl.lt
  have HL := hid hl
  have SA1 := hid (SA.out.below h)
  have Hg := hid hl.1
  clear h hl
  go_wp2_with fail
  refine (make_same (l := l) hn (by omega) HL.out.sp HR.out HE.out).mono ?_
  rintro e w2 ⟨va, rfl, hoa, h⟩
  have HB2 := hid (HB1.out.trans (h.mono HB1.out.size))
  have HS12 := hid h.size
  have HL2 := hid (HL.out.below h)
  have SA2 := hid (SA1.out.below h)
  have OA := hid hoa
  obtain ⟨Aa, ca, rfl, _, _, Sa⟩ := hoa.view
  clear h hoa HL SA1
  replace Sa := hid Sa
  go_wp2_with fail
  refine (make_ref_eq (l := l) hn (by omega) SA2.out HR.out HE.out).mono ?_
  rintro e w3 ⟨vb, rfl, hob, h⟩
  have HB3 := hid (HB2.out.trans (h.mono HB2.out.size))
  have HL3 := hid (HL2.out.below h)
  have SA3 := hid (SA2.out.below h)
  have OA3 := hid (OA.out.below h)
  have Sa3 := hid (Sa.out.below h)
  have HS3 := hid h.size
  have OB := hid hob
  obtain ⟨Ab, cb, rfl, _, _, Sb⟩ := hob.view
  clear h hob HL2 SA2 OA Sa
  replace Sb := hid Sb
  have HB := HB3
  go_wp2_with fail
  refine (same_eq (la := R) (lb := R) (r := true) (decide_eq_true rfl) rfl rfl (by omega) (by omega) Sa3.out Sb.out).mono ?_
  rintro e u11 ⟨rfl, h⟩
  replace Sa3 := hid (Sa3.out.below h)
  replace Sb := hid (Sb.out.below h)
  replace OA3 := hid (OA3.out.below h)
  replace OB := hid (OB.out.below h)
  replace HL3 := hid (HL3.out.below h)
  replace SA3 := hid (SA3.out.below h)
  replace HB := hid (HB.out.trans (h.mono HB.out.size))
  clear h
  have tE : (E != E) = false := by simp
  go_wp2_with fail
  refine (valid_eq (la := l) (r := vb2) HV.out hn (by omega) HL3.out.sp).mono ?_
  rintro e u12 ⟨rfl, h⟩
  replace Sa3 := hid (Sa3.out.below h)
  replace Sb := hid (Sb.out.below h)
  replace OA3 := hid (OA3.out.below h)
  replace OB := hid (OB.out.below h)
  replace HL3 := hid (HL3.out.below h)
  replace SA3 := hid (SA3.out.below h)
  replace HB := hid (HB.out.trans (h.mono HB.out.size))
  clear h
  go_wp2_with fail
  refine (valid_ref_eq (l := l) (r := vb2) HV.out hn (by omega) SA3.out).mono ?_
  rintro e u13 ⟨rfl, h⟩
  replace Sa3 := hid (Sa3.out.below h)
  replace Sb := hid (Sb.out.below h)
  replace OA3 := hid (OA3.out.below h)
  replace OB := hid (OB.out.below h)
  replace HL3 := hid (HL3.out.below h)
  replace SA3 := hid (SA3.out.below h)
  replace HB := hid (HB.out.trans (h.mono HB.out.size))
  clear h
  have tV : (vb2 != vb2) = false := by simp
  go_wp2_with fail
  refine (kept_any l A g n c w.heap.size _ hn (by omega) SA3.out HL3.out).mono ?_
  rintro e u14 ⟨rfl, h⟩
  replace Sa3 := hid (Sa3.out.below h)
  replace Sb := hid (Sb.out.below h)
  replace OA3 := hid (OA3.out.below h)
  replace OB := hid (OB.out.below h)
  replace HL3 := hid (HL3.out.below h)
  replace SA3 := hid (SA3.out.below h)
  replace HB := hid (HB.out.trans (h.mono HB.out.size))
  clear h
  go_wp2_with fail
  refine (over_any n g _ (by omega) (by rw [← hn.out]; exact HL3.out.row)).mono ?_
  rintro e w9 ⟨rfl, hg9⟩
  have OA9 : Hid (OwnSp w9 w1.heap.size (.slice Aa R.length ca) R) := World.ownsRow.kept OA3.out hg9 (by
    cases ho : (Value.slice Aa R.length ca).ownBlock with
    | none => exact .inl rfl
    | some q => exact .inr fun e => by have h7 := (World.ownsRow.lt OA3.out q ho).1; have := Option.some.inj e; omega)
  have OB9 : Hid (OwnSp w9 w2.heap.size (.slice Ab R.length cb) R) := World.ownsRow.kept OB.out hg9 (by
    cases ho : (Value.slice Ab R.length cb).ownBlock with
    | none => exact .inl rfl
    | some q => exact .inr fun e => by have h7 := (World.ownsRow.lt OB.out q ho).1; have h8 := HS12.out; have := Option.some.inj e; omega)
  have HB9 := hid (HB.out.grown hg9 HB.out.size (fun q e => by have := Option.some.inj e; have := Hg.out; omega))
  obtain ⟨_, _, e1, _, _, Sa9⟩ := OA9.out.view
  cases e1
  obtain ⟨_, _, e2, _, _, Sb9⟩ := OB9.out.view
  cases e2
  clear hg9
  go_wp2_with fail
  refine (same_eq (la := R) (lb := R) (r := true) (decide_eq_true rfl) rfl rfl (by omega) (by omega) Sa9 Sb9).mono ?_
  rintro e w10 ⟨rfl, h⟩
  have HB10 := hid (HB9.out.trans (h.mono HB9.out.size))
  clear h
  go_wp2
  go_ret
  exact ⟨rfl, HB10.out⟩

set_option maxRecDepth 100000 in
set_option maxHeartbeats 400000 in
theorem few_any (A : Option Addr) (n c : Nat) (w : World) : Calls Try.prog 11 #[.slice A n c] w fun e w' => e = .returned (.bool (decide (n ≤ 100))) ∧ w' = w := by
  by_cases h : n ≤ 100
  · have h1 : (n : Int) ≤ 100 := by omega
    go_enter Try.func11, Try.ntmps11
    go_wp2
    go_ret
    exact ⟨by simp [h], rfl⟩
  · have h1 : ¬ (n : Int) ≤ 100 := by omega
    go_enter Try.func11, Try.ntmps11
    go_wp2
    go_ret
    exact ⟨by simp, rfl⟩
theorem few_eq {A : Option Addr} {n c : Nat} {w : World} {r : Bool} (hr : decide (n ≤ 100) = r) : Calls Try.prog 11 #[.slice A n c] w fun e w' => e = .returned (.bool r) ∧ w' = w := by
  rw [← hr]; exact few_any A n c w

set_option maxRecDepth 100000 in
set_option maxHeartbeats 2000000 in
theorem makes_law (l : List Sp) (A : Option Addr) (n c : Nat) (w : World) (hn : l.length = n) (hA : SpH w A l) (hN : A = none → n = 0 ∧ c = 0) :
    Calls Try.prog 3 #[.slice A n c] w fun e w' => e = .returned (.bool true) ∧ Below w.heap.size w w' := by
  by_cases h : n ≤ 100
  · go_enter Try.func3, Try.ntmps3
    go_wp2_with fail
    refine (few_eq (r := true) (decide_eq_true h)).mono ?_
    rintro e _ ⟨rfl, rfl⟩
    go_wp2_with fail
    refine (makes_any l A n c _ hn h hA hN).mono ?_
    rintro e w1 ⟨rfl, h1⟩
    have H1 := hid h1
    clear h1
    go_wp2_with fail
    refine (awake_any _).mono ?_
    rintro e w2 ⟨rfl, h2⟩
    have H2 := hid (H1.out.trans (h2.mono H1.out.size))
    clear h2
    go_wp2
    go_ret
    exact ⟨rfl, H2.out⟩
  · go_enter Try.func3, Try.ntmps3
    go_wp2_with fail
    refine (few_eq (r := false) (decide_eq_false h)).mono ?_
    rintro e _ ⟨rfl, rfl⟩
    go_wp2_with fail
    refine (awake_any _).mono ?_
    rintro e w2 ⟨rfl, h2⟩
    have H2 := hid h2
    clear h2
    go_wp2
    go_ret
    exact ⟨rfl, H2.out⟩
end Go.Proofs.Ytpafnakepgjmnaa
