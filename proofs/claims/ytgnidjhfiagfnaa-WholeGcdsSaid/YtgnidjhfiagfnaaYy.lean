/- WholeGcds, for every input: the greatest common divisor divides both numbers, the quotients have the greatest common divisor 1, it does not change if a multiple of one number is added to the other one, and common factors can be taken out (at most 40 limbs each). Conditions: none. -/
import Derived.Test.YtgnidjhfiagfnaaYx
import Derived.Test.YtgnidjhfiagfnaaXg
namespace Go.Proofs.Ytgnidjhfiagfnaa
open Go.ChangeShapes Go.WideShapes Go.ChangeAt Go.RowKit Go.Joins

set_option maxRecDepth 100000 in
theorem wholeGcds_lifted (os : Os) (started : os.Started) (H : Type) (enc : TypeId × Value → H) :
    ReturnsInHanded {} Try.checked os 8 .any (Rows.wholeGcdsSpec.pre6 enc Try.prog Try.f8 Rows.wholeGcdsRow.domain false) (Rows.wholeGcdsSpec.post enc Try.prog Try.f8 false true false false) := by
  refine returnsInHanded_of_change_sized (C := Try.checked) own_none started (by kernel_rfl) Try.func8
    (ChangeSpec.witness6 (enc := enc) (C := Try.checked) false ⟨#[], #[.agg #[.bool false, .slice none 0 0], .agg #[.bool false, .slice none 0 0], .agg #[.bool false, .slice none 0 0]], []⟩ 8 (by kernel_rfl) (by kernel_rfl) (by kernel_rfl) (by kernel_rfl)) ?_
  intro W base args ds gs before hval0 hW hcnd hsz0 _
  have hval : ∀ (j : Nat) t v, Try.f8.params[j]? = some t → args[j]? = some v → Value.okWide Try.prog W .any base t v := hval0
  have hsz : (DataW.weightsEach Try.prog (Try.f8.params.toList ++ Rows.wholeGcdsSpec.plain.varTypes Try.prog) (ds ++ gs)).all (· ≤ reachBytes) = true := hsz0
  have hW' := hW
  have hlt : ∀ p ∈ before, p.block < W.heap.size := fun p hp => hW.lt p hp
  obtain ⟨p, q, hA0, hV, rfl, hfz, hnd⟩ := hW
  have hA : DataW.TrodAll enc Try.prog W 0 (fun _ => true) true Try.f8.params.toList args.toList ds p := hA0
  rw [Try.params8] at hA hval hsz
  obtain ⟨v0, v1, v2, d0, d1, d2, p0, p1, p2, rfl, rfl, rfl, h0, h1, h2⟩ := trodAll_three hA
  obtain ⟨rfl, rfl⟩ := trodVars_none hV
  have hall := List.all_eq_true.1 hsz
  obtain ⟨x0, l0, w0⟩ := open_whole (hval 0 26 v0 rfl rfl) h0 (fun n hn => by simpa using hall n (DataW.weights_mem_each (j := 0) (t := 26) rfl rfl n hn)) (fun y hy => hlt y (by simp [hy]))
  obtain ⟨x1, l1, w1⟩ := open_whole (hval 1 26 v1 rfl rfl) h1 (fun n hn => by simpa using hall n (DataW.weights_mem_each (j := 1) (t := 26) rfl rfl n hn)) (fun y hy => hlt y (by simp [hy]))
  obtain ⟨x2, l2, w2⟩ := open_whole (hval 2 26 v2 rfl rfl) h2 (fun n hn => by simpa using hall n (DataW.weights_mem_each (j := 2) (t := 26) rfl rfl n hn)) (fun y hy => hlt y (by simp [hy]))
  clear hA0 hval0 hsz0
  simp only [List.append_nil] at hW' hlt
  refine (gcds_any w0 w1 w2).mono fun e W' ⟨he, hb⟩ => ?_
  subst he
  have m0 : ∀ z ∈ p0, z.block < W.heap.size := fun z hz => hlt z (by simp [hz])
  have m1 : ∀ z ∈ p1, z.block < W.heap.size := fun z hz => hlt z (by simp [hz])
  have m2 : ∀ z ∈ p2, z.block < W.heap.size := fun z hz => hlt z (by simp [hz])
  have t0 : ∀ sp : Nat → Bool, (∀ p ∈ (p0 ++ p1 ++ p2), sp p.block = true) → DataW.Trod enc Try.prog W' 0 sp true 26 v0 d0 p0 := fun sp hsp =>
    WideElems.Trod_stays laid_out readable26 types_many h0 (fun x hx => hb.same (m0 x hx)) (fun x hx => by simpa using hsp x (by simp [hx]))
  have t1 : ∀ sp : Nat → Bool, (∀ p ∈ (p0 ++ p1 ++ p2), sp p.block = true) → DataW.Trod enc Try.prog W' 0 sp true 26 v1 d1 p1 := fun sp hsp =>
    WideElems.Trod_stays laid_out readable26 types_many h1 (fun x hx => hb.same (m1 x hx)) (fun x hx => by simpa using hsp x (by simp [hx]))
  have t2 : ∀ sp : Nat → Bool, (∀ p ∈ (p0 ++ p1 ++ p2), sp p.block = true) → DataW.Trod enc Try.prog W' 0 sp true 26 v2 d2 p2 := fun sp hsp =>
    WideElems.Trod_stays laid_out readable26 types_many h2 (fun x hx => hb.same (m2 x hx)) (fun x hx => by simpa using hsp x (by simp [hx]))
  exact ⟨_, rfl, post_of_below (pa := p0 ++ (p1 ++ p2)) (pv := []) hW' (fun _ _ _ => trodAll_mk1 (shut_bool Try.underlying4 true)) (fun sp hsp => trodAll_mk3 (t0 sp hsp) (t1 sp hsp) (t2 sp hsp)) (fun _ _ => rfl) (by simp) hb
    (ok_one (by kernel_rfl) rfl (okWide_bool_mk Try.underlying4 true))⟩

theorem wholeGcds_holds : Rows.WholeGcdsSaid :=
  OpenClaim.holds_of_wide 8 Try.f8 rfl rfl rfl rfl rfl rfl rfl ⟨rfl, rfl, rfl, rfl, rfl⟩ rfl rfl rfl rfl rfl (by kernel_rfl) Try.func8 (by kernel_rfl)
    (of_decide_eq_true (by kernel_rfl)) (by unfold Func.isWrapper; rw [if_neg (of_decide_eq_false (by kernel_rfl))]; exact ⟨rfl, rfl⟩)
    (fun os started H enc _ => wholeGcds_lifted os started H enc)

#print axioms wholeGcds_holds
end Go.Proofs.Ytgnidjhfiagfnaa
