/- WholeTexts, for every input: Parse inverts Text; a text that is parsed is the text of the result; appending a digit multiplies by ten and adds it (at most 100 limbs, texts of at most 400 bytes). Conditions: none. -/
import Derived.Test.YtgnidjhfiagfnaaXx
import Derived.Test.YtgnidjhfiagfnaaXy
import Derived.Test.YtgnidjhfiagfnaaXz
import Derived.Test.YtgnidjhfiagfnaaXg
import Derived.ChangeMaps
import Derived.SizedLaws
namespace Go.Proofs.Ytgnidjhfiagfnaa
open Go.ChangeShapes Go.WideShapes Go.ChangeAt Go.RowKit Go.Joins
open Go.ChangeMaps (open_string shut_string)

theorem texts_any {w : World} {va : Value} {x : Bool} {la : List Nat} (ha : Wh w va x la) (txt : ByteArray) (htm : txt.size ≤ 4611686018427387904) (d0 : Int) (hd0 : 0 ≤ d0) (hd1 : d0 ≤ 255) :
    Calls Try.prog 9 #[va, .string txt, .int .u8 d0] w fun e w' => e = .returned (.bool true) ∧ Below w.heap.size w w' := by
  obtain ⟨A, ca, rfl, sa⟩ := ha
  cases hu : uB 100 x la with
  | false => exact texts_not sa rfl txt d0 hu
  | true =>
    by_cases hl : 400 < txt.size
    · exact texts_long sa rfl txt d0 hu hl htm
    · by_cases h0 : la = []
      · have hx : x = false := by
          subst h0
          unfold uB validB at hu
          simpa using hu
        subst hx
        subst h0
        exact texts_zero sa rfl txt d0 hu (by omega) hd0 hd1 rfl
      · cases x with
        | false => exact texts_pos sa rfl txt d0 hu (by omega) hd0 hd1 h0
        | true => exact texts_neg sa rfl txt d0 hu (by omega) hd0 hd1 h0

set_option maxRecDepth 100000 in
theorem wholeTexts_lifted (os : Os) (started : os.Started) (H : Type) (enc : TypeId × Value → H) :
    ReturnsInHanded {} Try.checked os 9 .any (Rows.wholeTextsSpec.pre6 enc Try.prog Try.f9 Rows.wholeTextsRow.domain false) (Rows.wholeTextsSpec.post enc Try.prog Try.f9 false true false false) := by
  refine returnsInHanded_of_change_sized (C := Try.checked) own_none started (by kernel_rfl) Try.func9
    (ChangeSpec.witness6 (enc := enc) (C := Try.checked) false ⟨#[], #[.agg #[.bool false, .slice none 0 0], .string ⟨#[]⟩, .int .u8 0], []⟩ 8 (by kernel_rfl) (by kernel_rfl) (by kernel_rfl) (by kernel_rfl)) ?_
  intro W base args ds gs before hval0 hW hcnd hsz0 _
  have hval : ∀ (j : Nat) t v, Try.f9.params[j]? = some t → args[j]? = some v → Value.okWide Try.prog W .any base t v := hval0
  have hsz : (DataW.weightsEach Try.prog (Try.f9.params.toList ++ Rows.wholeTextsSpec.plain.varTypes Try.prog) (ds ++ gs)).all (· ≤ reachBytes) = true := hsz0
  have hW' := hW
  have hlt : ∀ p ∈ before, p.block < W.heap.size := fun p hp => hW.lt p hp
  obtain ⟨p, q, hA0, hV, rfl, hfz, hnd⟩ := hW
  have hA : DataW.TrodAll enc Try.prog W 0 (fun _ => true) true Try.f9.params.toList args.toList ds p := hA0
  rw [Try.params9] at hA hval hsz
  obtain ⟨v0, v1, v2, d0, d1, d2, p0, p1, p2, rfl, rfl, rfl, h0, h1, h2⟩ := trodAll_three hA
  obtain ⟨rfl, rfl⟩ := trodVars_none hV
  have hall := List.all_eq_true.1 hsz
  obtain ⟨x0, l0, w0⟩ := open_whole (hval 0 26 v0 rfl rfl) h0 (fun n hn => by simpa using hall n (DataW.weights_mem_each (j := 0) (t := 26) rfl rfl n hn)) (fun y hy => hlt y (by simp [hy]))
  obtain ⟨txt, rfl, rfl, rfl, wtxt⟩ := open_string Try.underlying9 (hval 1 9 v1 rfl rfl) h1
  obtain ⟨n, rfl, rfl, rfl, wn⟩ := open_int Try.underlying5 (hval 2 5 v2 rfl rfl) h2
  have HTX := sized_string hsz (j := 1) (t := 9) (bytes := txt.data.toList) rfl rfl
  clear hA0 hval0 hsz0
  simp only [List.append_nil] at hW' hlt
  have hn : 0 ≤ n ∧ n ≤ 255 := by
    have h := Bool.and_eq_true_iff.1 wn
    have h1 := of_decide_eq_true h.1
    have h2 := of_decide_eq_true h.2
    have e1 : IntKind.min .u8 = 0 := by decide
    have e2 : IntKind.max .u8 = 255 := by decide
    rw [e1] at h1
    rw [e2] at h2
    exact ⟨h1, h2⟩
  have htx : txt.size ≤ 4611686018427387904 := by
    have h := Nat.le_trans HTX (by decide : reachBytes ≤ 4611686018427387904)
    simpa using h
  refine (texts_any w0 txt htx n hn.1 hn.2).mono fun e W' ⟨he, hb⟩ => ?_
  subst he
  have m0 : ∀ z ∈ p0, z.block < W.heap.size := fun z hz => hlt z (by simp [hz])
  have t0 : ∀ sp : Nat → Bool, (∀ p ∈ p0, sp p.block = true) → DataW.Trod enc Try.prog W' 0 sp true 26 v0 d0 p0 := fun sp hsp =>
    WideElems.Trod_stays laid_out readable26 types_many h0 (fun x hx => hb.same (m0 x hx)) (fun x hx => by simpa using hsp x hx)
  exact ⟨_, rfl, post_of_below (pa := p0 ++ ([] ++ [])) (pv := []) hW' (fun _ _ _ => trodAll_mk1 (shut_bool Try.underlying4 true)) (fun sp hsp => trodAll_mk3 (t0 sp (fun p hp => hsp p (by simp [hp]))) (shut_string Try.underlying9 wtxt) (shut_int Try.underlying5 wn)) (fun _ _ => rfl) (by simp) hb
    (ok_one (by kernel_rfl) rfl (okWide_bool_mk Try.underlying4 true))⟩

theorem wholeTexts_holds : Rows.WholeTextsSaid :=
  OpenClaim.holds_of_wide 9 Try.f9 rfl rfl rfl rfl rfl rfl rfl ⟨rfl, rfl, rfl, rfl, rfl⟩ rfl rfl rfl rfl rfl (by kernel_rfl) Try.func9 (by kernel_rfl)
    (of_decide_eq_true (by kernel_rfl)) (by unfold Func.isWrapper; rw [if_neg (of_decide_eq_false (by kernel_rfl))]; exact ⟨rfl, rfl⟩)
    (fun os started H enc _ => wholeTexts_lifted os started H enc)

#print axioms wholeTexts_holds
end Go.Proofs.Ytgnidjhfiagfnaa
