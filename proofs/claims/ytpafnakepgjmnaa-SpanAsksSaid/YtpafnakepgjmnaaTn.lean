/- SpanAsks' function returns true. -/
import Derived.Test.YtpafnakepgjmnaaTm
namespace Go.Proofs.Ytpafnakepgjmnaa
open Go.RowKit Go.Lib Go.Shelf

def brR (l : List Sp) (z : Int) : List Sp := if IsSet l ∧ 0 ≤ z then mergeL z l else []
def brE (l : List Sp) (z : Int) : Int := if IsSet l ∧ 0 ≤ z then 0 else 2
set_option maxRecDepth 100000 in
set_option maxHeartbeats 2000000 in
theorem bridge_ref_no (l : List Sp) (A : Option Addr) (n c : Nat) (z : Int) (w : World) (hn : Hid (l.length = n)) (hm : n ≤ 4611686018427387904) (hA : SpH w A l) (hs : ¬ (IsSet l ∧ 0 ≤ z)) :
    Calls Try.prog 39 #[.slice A n c, .int .i64 z] w (RetSpE w [] 2) := by
  have SA := hid hA
  clear hA
  cases hv : validB l
  · have HV := hid hv
    clear hv
    go_enter Try.func39, Try.ntmps39
    go_wp2_with fail
    refine (valid_ref_eq (l := l) (r := false) HV.out hn hm SA.out).mono ?_
    rintro e w1 ⟨rfl, h⟩
    have HB := hid h
    clear h
    go_wp2
    go_ret2
    exact ⟨_, rfl, ownSp_nil _ _, HB.out⟩
  · have HV := hid hv
    have hz : z < 0 := Int.not_le.1 fun h => hs ⟨validB_true.1 hv, h⟩
    have hzd : decide (z < 0) = true := decide_eq_true hz
    clear hv hs
    go_enter Try.func39, Try.ntmps39
    go_wp2_with fail
    refine (valid_ref_eq (l := l) (r := true) HV.out hn hm SA.out).mono ?_
    rintro e w1 ⟨rfl, h⟩
    have HB := hid h
    clear h
    go_wp2
    go_ret2
    exact ⟨_, rfl, ownSp_nil _ _, HB.out⟩

section
variable {l : List Sp} {A : Option Addr} {n c : Nat} {w : World} {R : List Sp} {E z d X : Int} {I : Bool}
theorem bridge_sp (hn : l.length = n) (hm : n ≤ 4611686018427387904) (hA : SpH w A l) (hR : brR l z = R) (hE : brE l z = E) : Calls Try.prog 30 #[.slice A n c, .int .i64 z] w (RetSpE w R E) := by
  rw [← hR, ← hE]
  by_cases h : IsSet l ∧ 0 ≤ z
  · unfold brR brE; rw [if_pos h, if_pos h]; exact bridge_yes l A n c z w hn h.1 h.2 hA
  · unfold brR brE; rw [if_neg h, if_neg h]; exact bridge_no l A n c z w hn hm h hA
theorem bridge_rf (hn : l.length = n) (hm : n ≤ 4611686018427387904) (hA : SpH w A l) (hR : brR l z = R) (hE : brE l z = E) : Calls Try.prog 39 #[.slice A n c, .int .i64 z] w (RetSpE w R E) := by
  rw [← hR, ← hE]
  by_cases h : IsSet l ∧ 0 ≤ z
  · unfold brR brE; rw [if_pos h, if_pos h]; exact bridge_ref_yes l A n c z w hn hA h.1 h.2
  · unfold brR brE; rw [if_neg h, if_neg h]; exact bridge_ref_no l A n c z w hn hm hA h
theorem nth_sp (hn : l.length = n) (hm : n ≤ 4611686018427387904) (hz : z ≤ 9223372036854775807) (hA : SpH w A l) (hX : nthV l z = X) (hI : nthB l z = I) : Calls Try.prog 28 #[.slice A n c, .int .i64 z] w fun e w' => e = .returned (.tuple #[.int .i64 X, .bool I]) ∧ Below w.heap.size w w' := by
  rw [← hX, ← hI]; exact nth_any l A n c z w hn hm hz hA
theorem nth_rf (hn : l.length = n) (hm : n ≤ 4611686018427387904) (hz1 : -9223372036854775808 ≤ z) (hz : z ≤ 9223372036854775807) (hA : SpH w A l) (hX : nthV l z = X) (hI : nthB l z = I) : Calls Try.prog 38 #[.slice A n c, .int .i64 z] w fun e w' => e = .returned (.tuple #[.int .i64 X, .bool I]) ∧ Below w.heap.size w w' := by
  rw [← hX, ← hI]; exact nth_ref l A n c z w hn hm hA hz1 hz
theorem has_sp (hn : l.length = n) (hm : n ≤ 4611686018427387904) (hA : SpH w A l) (hI : hasV l d = I) : Calls Try.prog 21 #[.slice A n c, .int .i64 d] w fun e w' => e = .returned (.bool I) ∧ Below w.heap.size w w' := by
  rw [← hI]; exact has_any l A n c d w hn hm hA
theorem has_rf (hn : l.length = n) (hm : n ≤ 4611686018427387904) (hA : SpH w A l) (hI : hasV l d = I) : Calls Try.prog 40 #[.slice A n c, .int .i64 d] w fun e w' => e = .returned (.bool I) ∧ Below w.heap.size w w' := by
  have e : hasV l d = (validB l && memB l d) := by
    unfold hasV validB
    by_cases h : IsSet l
    · rw [if_pos h, decide_eq_true h]; rfl
    · rw [if_neg h, decide_eq_false h]; rfl
  rw [← hI, e]; exact has_ref l A n c d w hn hm hA
theorem before_sp (hn : l.length = n) (hm : n ≤ 4611686018427387904) (hc : n ≤ c) (hA : SpH w A l) (hX : befV l d = X) : Calls Try.prog 29 #[.slice A n c, .int .i64 d] w fun e w' => e = .returned (.int .i64 X) ∧ Below w.heap.size w w' := by
  rw [← hX]; exact before_any l A n c d w hn hc hm hA
theorem before_rf (hn : l.length = n) (hm : n ≤ 4611686018427387904) (hA : SpH w A l) (hX : befV l d = X) : Calls Try.prog 41 #[.slice A n c, .int .i64 d] w fun e w' => e = .returned (.int .i64 X) ∧ Below w.heap.size w w' := by
  rw [← hX]; exact before_ref l A n c d w hn hm hA
theorem days_sp (hn : l.length = n) (hm : n ≤ 4611686018427387904) (hA : SpH w A l) (hX : daysV l = X) : Calls Try.prog 22 #[.slice A n c] w fun e w' => e = .returned (.int .i64 X) ∧ Below w.heap.size w w' := by
  rw [← hX]; exact days_any l A n c w hn hm hA
end
theorem days_bef (l : List Sp) : befV l 65536 = daysV l := by
  unfold befV daysV
  by_cases h : IsSet l
  · rw [if_pos h, if_pos h]; exact h.bef_all (by omega)
  · rw [if_neg h, if_neg h]

set_option maxRecDepth 100000 in
set_option maxHeartbeats 8000000 in
theorem asks_any (l : List Sp) (A : Option Addr) (n c : Nat) (day z : Int) (w : World) (hn : Hid (l.length = n)) (hm : n ≤ 100) (hA : SpH w A l) (hN : A = none → n = 0 ∧ c = 0) (hz1 : -9223372036854775808 ≤ z) (hz2 : z ≤ 9223372036854775807) :
    Calls Try.prog 14 #[.slice A n c, .int .i64 day, .int .i64 z] w fun e w' => e = .returned (.bool true) ∧ Below w.heap.size w w' := by
  have SA := hid hA
  have HN := hid hN
  obtain ⟨R, HR⟩ : ∃ R, Hid (brR l z = R) := ⟨_, rfl⟩
  obtain ⟨E, HE⟩ : ∃ E, Hid (brE l z = E) := ⟨_, rfl⟩
  obtain ⟨X, HX⟩ : ∃ r, Hid (nthV l z = r) := ⟨_, rfl⟩
  obtain ⟨I, HI⟩ : ∃ r, Hid (nthB l z = r) := ⟨_, rfl⟩
  obtain ⟨Hh, HH⟩ : ∃ r, Hid (hasV l day = r) := ⟨_, rfl⟩
  obtain ⟨Fb, HF⟩ : ∃ r, Hid (befV l day = r) := ⟨_, rfl⟩
  obtain ⟨Dd, HD⟩ : ∃ r, Hid (daysV l = r) := ⟨_, rfl⟩
  have HD2 : Hid (befV l 65536 = Dd) := (days_bef l).trans HD.out
  clear hA hN
  go_enter Try.func14, Try.ntmps14
  have hRb : R.length ≤ 65536 := by
    rw [← HR.out]; unfold brR; split
    · rename_i h; exact (merge_set h.1 h.2).1.len_bd
    · simp
  go_wp2_with fail
  refine (lent_any l A n c _ hn (by omega) SA.out HN.out).mono ?_
  rintro e w1 ⟨g, rfl, hl, h⟩
  have HB1 := hid h
  have hgl : g < w1.heap.size := hl.lt
  have HL := hid hl
  have SA1 := hid (SA.out.below h)
  have Hg := hid hl.1
  clear h hl
  have HB := HB1
  go_wp2_with fail
  refine (nth_sp (l := l) (z := z) hn (by omega) hz2 HL.out.sp HX.out HI.out).mono ?_
  rintro e u11 ⟨rfl, h⟩
  replace HL := hid (HL.out.below h)
  replace SA1 := hid (SA1.out.below h)
  replace HB := hid (HB.out.trans (h.mono HB.out.size))
  clear h
  go_wp2_with fail
  refine (nth_rf (l := l) (z := z) hn (by omega) hz1 hz2 SA1.out HX.out HI.out).mono ?_
  rintro e u12 ⟨rfl, h⟩
  replace HL := hid (HL.out.below h)
  replace SA1 := hid (SA1.out.below h)
  replace HB := hid (HB.out.trans (h.mono HB.out.size))
  clear h
  go_wp2_with fail
  have HLT : Hid (g < u12.heap.size) := HL.out.lt
  refine (bridge_sp (l := l) (z := z) hn (by omega) HL.out.sp HR.out HE.out).mono ?_
  rintro e w2 ⟨va, rfl, hoa, h⟩
  replace HL := hid (HL.out.below h)
  replace SA1 := hid (SA1.out.below h)
  replace HB := hid (HB.out.trans (h.mono HB.out.size))
  have OA := hid hoa
  obtain ⟨Aa, ca, rfl, _, _, Sa⟩ := hoa.view
  replace Sa := hid Sa
  clear h hoa
  go_wp2_with fail
  have HLT2 : Hid (g < w2.heap.size) := HL.out.lt
  refine (bridge_rf (l := l) (z := z) hn (by omega) SA1.out HR.out HE.out).mono ?_
  rintro e w3 ⟨vb, rfl, hob, h⟩
  replace HL := hid (HL.out.below h)
  replace SA1 := hid (SA1.out.below h)
  replace OA := hid (OA.out.below h)
  replace HB := hid (HB.out.trans (h.mono HB.out.size))
  have OB := hid hob
  obtain ⟨Ab, cb, rfl, _, _, Sb⟩ := hob.view
  clear h hob Sa Sb
  have tX : (X != X) = false := by simp
  have tI : (I != I) = false := by simp
  have tE : (E != E) = false := by simp
  go_wp2_with fail
  refine (has_sp (l := l) (d := day) hn (by omega) HL.out.sp HH.out).mono ?_
  rintro e u13 ⟨rfl, h⟩
  replace HL := hid (HL.out.below h)
  replace SA1 := hid (SA1.out.below h)
  replace OA := hid (OA.out.below h)
  replace OB := hid (OB.out.below h)
  replace HB := hid (HB.out.trans (h.mono HB.out.size))
  clear h
  go_wp2_with fail
  refine (has_rf (l := l) (d := day) hn (by omega) SA1.out HH.out).mono ?_
  rintro e u14 ⟨rfl, h⟩
  replace HL := hid (HL.out.below h)
  replace SA1 := hid (SA1.out.below h)
  replace OA := hid (OA.out.below h)
  replace OB := hid (OB.out.below h)
  replace HB := hid (HB.out.trans (h.mono HB.out.size))
  clear h
  have tH : (Hh != Hh) = false := by simp
  go_wp2_with fail
  refine (before_sp (l := l) (d := day) hn (by omega) (by omega) HL.out.sp HF.out).mono ?_
  rintro e u15 ⟨rfl, h⟩
  replace HL := hid (HL.out.below h)
  replace SA1 := hid (SA1.out.below h)
  replace OA := hid (OA.out.below h)
  replace OB := hid (OB.out.below h)
  replace HB := hid (HB.out.trans (h.mono HB.out.size))
  clear h
  go_wp2_with fail
  refine (before_rf (l := l) (d := day) hn (by omega) SA1.out HF.out).mono ?_
  rintro e u16 ⟨rfl, h⟩
  replace HL := hid (HL.out.below h)
  replace SA1 := hid (SA1.out.below h)
  replace OA := hid (OA.out.below h)
  replace OB := hid (OB.out.below h)
  replace HB := hid (HB.out.trans (h.mono HB.out.size))
  clear h
  have tF : (Fb != Fb) = false := by simp
  go_wp2_with fail
  refine (days_sp (l := l) hn (by omega) HL.out.sp HD.out).mono ?_
  rintro e u17 ⟨rfl, h⟩
  replace HL := hid (HL.out.below h)
  replace SA1 := hid (SA1.out.below h)
  replace OA := hid (OA.out.below h)
  replace OB := hid (OB.out.below h)
  replace HB := hid (HB.out.trans (h.mono HB.out.size))
  clear h
  go_wp2_with fail
  refine (before_rf (l := l) (d := 65536) hn (by omega) SA1.out HD2.out).mono ?_
  rintro e u18 ⟨rfl, h⟩
  replace HL := hid (HL.out.below h)
  replace SA1 := hid (SA1.out.below h)
  replace OA := hid (OA.out.below h)
  replace OB := hid (OB.out.below h)
  replace HB := hid (HB.out.trans (h.mono HB.out.size))
  clear h
  have tD : (Dd != Dd) = false := by simp
  go_wp2_with fail
  refine (kept_any l A g n c w.heap.size _ hn (by omega) SA1.out HL.out).mono ?_
  rintro e u19 ⟨rfl, h⟩
  replace HL := hid (HL.out.below h)
  replace SA1 := hid (SA1.out.below h)
  replace OA := hid (OA.out.below h)
  replace OB := hid (OB.out.below h)
  replace HB := hid (HB.out.trans (h.mono HB.out.size))
  clear h
  go_wp2_with fail
  refine (over_any n g _ (by omega) (by rw [← hn.out]; exact HL.out.row)).mono ?_
  rintro e w9 ⟨rfl, hg9⟩
  have OA9 : Hid (OwnSp w9 u12.heap.size (.slice Aa R.length ca) R) := World.ownsRow.kept OA.out hg9 (by
    cases ho : (Value.slice Aa R.length ca).ownBlock with
    | none => exact .inl rfl
    | some q => exact .inr fun e => by have h7 := (World.ownsRow.lt OA.out q ho).1; have h8 := HLT.out; have := Option.some.inj e; omega)
  have OB9 : Hid (OwnSp w9 w2.heap.size (.slice Ab R.length cb) R) := World.ownsRow.kept OB.out hg9 (by
    cases ho : (Value.slice Ab R.length cb).ownBlock with
    | none => exact .inl rfl
    | some q => exact .inr fun e => by have h7 := (World.ownsRow.lt OB.out q ho).1; have h8 := HLT2.out; have := Option.some.inj e; omega)
  have HB9 := hid (HB.out.grown hg9 HB.out.size (fun q e => by have := Option.some.inj e; have := Hg.out; omega))
  obtain ⟨_, _, e1, _, _, Sa9⟩ := OA9.out.view
  cases e1
  obtain ⟨_, _, e2, _, _, Sb9⟩ := OB9.out.view
  cases e2
  clear hg9
  go_wp2_with fail
  refine (same_eq (la := R) (lb := R) (r := true) (decide_eq_true rfl) rfl rfl (by omega) (by omega) Sa9 Sb9).mono ?_
  rintro e w10 ⟨rfl, h⟩
  have HB10 := hid (HB9.out.trans (h.mono HB9.out.size))
  clear h
  go_wp2
  go_ret
  exact ⟨rfl, HB10.out⟩

set_option maxRecDepth 100000 in
set_option maxHeartbeats 2000000 in
theorem asks_law (l : List Sp) (day z : Int) (A : Option Addr) (n c : Nat) (w : World) (hn : l.length = n) (hA : SpH w A l) (hN : A = none → n = 0 ∧ c = 0) (_hd1 : -9223372036854775808 ≤ day) (_hd2 : day ≤ 9223372036854775807) (hz1 : -9223372036854775808 ≤ z) (hz2 : z ≤ 9223372036854775807) :
    Calls Try.prog 4 #[.slice A n c, .int .i64 day, .int .i64 z] w fun e w' => e = .returned (.bool true) ∧ Below w.heap.size w w' := by
  by_cases h : n ≤ 100
  · go_enter Try.func4, Try.ntmps4
    go_wp2_with fail
    refine (few_eq (r := true) (decide_eq_true h)).mono ?_
    rintro e _ ⟨rfl, rfl⟩
    go_wp2_with fail
    refine (asks_any l A n c day z _ hn h hA hN hz1 hz2).mono ?_
    rintro e w1 ⟨rfl, h1⟩
    have H1 := hid h1
    clear h1
    go_wp2_with fail
    refine (awake_any _).mono ?_
    rintro e w2 ⟨rfl, h2⟩
    have H2 := hid (H1.out.trans (h2.mono H1.out.size))
    clear h2
    go_wp2
    go_ret
    exact ⟨rfl, H2.out⟩
  · go_enter Try.func4, Try.ntmps4
    go_wp2_with fail
    refine (few_eq (r := false) (decide_eq_false h)).mono ?_
    rintro e _ ⟨rfl, rfl⟩
    go_wp2_with fail
    refine (awake_any _).mono ?_
    rintro e w2 ⟨rfl, h2⟩
    have H2 := hid h2
    clear h2
    go_wp2
    go_ret
    exact ⟨rfl, H2.out⟩
end Go.Proofs.Ytpafnakepgjmnaa
