/- WholeDivides, the stage's theorem, for every input: a = q * b + r, r is 0 or has the sign of b and a smaller absolute value; a + b has the quotient q + 1 and the same rest; b = 0 returns ErrZero (at most 200 limbs each). Conditions: none. -/
import Derived.Test.YtgnidjhfiagfnaaYo
import Derived.Test.YtgnidjhfiagfnaaXg
namespace Go.Proofs.Ytgnidjhfiagfnaa
open Go.ChangeShapes Go.WideShapes Go.ChangeAt Go.RowKit Go.Joins

theorem divides_any {x y : Bool} {la lb : List Nat} {w : World} {va vb : Value} (ha : Wh w va x la) (hb : Wh w vb y lb) :
    Calls Try.prog 5 #[va, vb] w fun e w' => e = .returned (.bool true) ∧ Below w.heap.size w w' := by
  obtain ⟨A, ca, rfl, sa⟩ := ha
  obtain ⟨B, cb, rfl, sb⟩ := hb
  cases hu : (uB 200 x la && uB 200 y lb) with
  | false => exact div_not sa rfl sb rfl hu
  | true =>
    simp only [Bool.and_eq_true] at hu
    by_cases h0 : lb = []
    · subst h0
      have hy : y = false := by
        have h := hu.2
        unfold uB validB at h
        simpa using h
      subst hy
      exact div_zero sa rfl sb rfl hu.1 hu.2 rfl
    · exact div_ok sa rfl sb rfl hu.1 hu.2 h0

set_option maxRecDepth 100000 in
theorem wholeDivides_lifted (os : Os) (started : os.Started) (H : Type) (enc : TypeId × Value → H) :
    ReturnsInHanded {} Try.checked os 5 .any (Rows.wholeDividesSpec.pre6 enc Try.prog Try.f5 Rows.wholeDividesRow.domain false) (Rows.wholeDividesSpec.post enc Try.prog Try.f5 false true false false) := by
  refine returnsInHanded_of_change_sized (C := Try.checked) own_none started (by kernel_rfl) Try.func5
    (ChangeSpec.witness6 (enc := enc) (C := Try.checked) false ⟨#[], #[.agg #[.bool false, .slice none 0 0], .agg #[.bool false, .slice none 0 0]], []⟩ 8 (by kernel_rfl) (by kernel_rfl) (by kernel_rfl) (by kernel_rfl)) ?_
  intro W base args ds gs before hval0 hW hcnd hsz0 _
  have hval : ∀ (j : Nat) t v, Try.f5.params[j]? = some t → args[j]? = some v → Value.okWide Try.prog W .any base t v := hval0
  have hsz : (DataW.weightsEach Try.prog (Try.f5.params.toList ++ Rows.wholeDividesSpec.plain.varTypes Try.prog) (ds ++ gs)).all (· ≤ reachBytes) = true := hsz0
  have hW' := hW
  have hlt : ∀ p ∈ before, p.block < W.heap.size := fun p hp => hW.lt p hp
  obtain ⟨p, q, hA0, hV, rfl, hfz, hnd⟩ := hW
  have hA : DataW.TrodAll enc Try.prog W 0 (fun _ => true) true Try.f5.params.toList args.toList ds p := hA0
  rw [Try.params5] at hA hval hsz
  obtain ⟨v0, v1, d0, d1, p0, p1, rfl, rfl, rfl, h0, h1⟩ := trodAll_two hA
  obtain ⟨rfl, rfl⟩ := trodVars_none hV
  have hall := List.all_eq_true.1 hsz
  obtain ⟨x, la, hx⟩ := open_whole (hval 0 26 v0 rfl rfl) h0 (fun n hn => by simpa using hall n (DataW.weights_mem_each (j := 0) (t := 26) rfl rfl n hn)) (fun y hy => hlt y (by simp [hy]))
  obtain ⟨y, lb, hy⟩ := open_whole (hval 1 26 v1 rfl rfl) h1 (fun n hn => by simpa using hall n (DataW.weights_mem_each (j := 1) (t := 26) rfl rfl n hn)) (fun y hy => hlt y (by simp [hy]))
  clear hA0 hval0 hsz0
  simp only [List.append_nil] at hW' hlt
  refine (divides_any hx hy).mono fun e W' ⟨he, hb⟩ => ?_
  subst he
  have l0 : ∀ z ∈ p0, z.block < W.heap.size := fun z hz => hlt z (by simp [hz])
  have l1 : ∀ z ∈ p1, z.block < W.heap.size := fun z hz => hlt z (by simp [hz])
  have t0 : ∀ sp : Nat → Bool, (∀ p ∈ p0 ++ p1, sp p.block = true) → DataW.Trod enc Try.prog W' 0 sp true 26 v0 d0 p0 := fun sp hsp =>
    WideElems.Trod_stays laid_out readable26 types_many h0 (fun x hx => hb.same (l0 x hx)) (fun x hx => by simpa using hsp x (by simp [hx]))
  have t1 : ∀ sp : Nat → Bool, (∀ p ∈ p0 ++ p1, sp p.block = true) → DataW.Trod enc Try.prog W' 0 sp true 26 v1 d1 p1 := fun sp hsp =>
    WideElems.Trod_stays laid_out readable26 types_many h1 (fun x hx => hb.same (l1 x hx)) (fun x hx => by simpa using hsp x (by simp [hx]))
  exact ⟨_, rfl, post_of_below (pa := p0 ++ p1) (pv := []) hW' (fun _ _ _ => trodAll_mk1 (shut_bool Try.underlying4 true)) (fun sp hsp => trodAll_mk2 (t0 sp hsp) (t1 sp hsp)) (fun _ _ => rfl) (by simp) hb
    (ok_one (by kernel_rfl) rfl (okWide_bool_mk Try.underlying4 true))⟩

theorem wholeDivides_holds : Rows.WholeDividesSaid :=
  OpenClaim.holds_of_wide 5 Try.f5 rfl rfl rfl rfl rfl rfl rfl ⟨rfl, rfl, rfl, rfl, rfl⟩ rfl rfl rfl rfl rfl (by kernel_rfl) Try.func5 (by kernel_rfl)
    (of_decide_eq_true (by kernel_rfl)) (by unfold Func.isWrapper; rw [if_neg (of_decide_eq_false (by kernel_rfl))]; exact ⟨rfl, rfl⟩)
    (fun os started H enc _ => wholeDivides_lifted os started H enc)

#print axioms wholeDivides_holds
end Go.Proofs.Ytgnidjhfiagfnaa
