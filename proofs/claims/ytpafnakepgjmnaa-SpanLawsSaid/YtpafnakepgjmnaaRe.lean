/- SpanLaws, for every input: Union and Meet are commutative and associative and distribute over each other; a difference is the difference of the meet; Make of all spans of two sets, in any order and twice, is their union. Conditions: none. -/
import Derived.Test.YtpafnakepgjmnaaVe
import Derived.Test.YtpafnakepgjmnaaXa
namespace Go.Proofs.Ytpafnakepgjmnaa
open Go.ChangeShapes Go.WideShapes Go.ChangeAt Go.RowKit Go.Joins

set_option maxRecDepth 100000 in
theorem spanLaws_lifted (os : Os) (started : os.Started) (H : Type) (enc : TypeId × Value → H) :
    ReturnsInHanded {} Try.checked os 7 .any (Rows.spanLawsSpec.pre6 enc Try.prog Try.f7 Rows.spanLawsRow.domain false) (Rows.spanLawsSpec.post enc Try.prog Try.f7 false true false false) := by
  refine returnsInHanded_of_change_sized (C := Try.checked) own_none started (by kernel_rfl) Try.func7
    (ChangeSpec.witness6 (enc := enc) (C := Try.checked) false ⟨#[], #[.slice none 0 0, .slice none 0 0, .slice none 0 0], []⟩ 8 (by kernel_rfl) (by kernel_rfl) (by kernel_rfl) (by kernel_rfl)) ?_
  intro W base args ds gs before hval0 hW hcnd hsz0 _
  have hval : ∀ (j : Nat) t v, Try.f7.params[j]? = some t → args[j]? = some v → Value.okWide Try.prog W .any base t v := hval0
  have hsz : (DataW.weightsEach Try.prog (Try.f7.params.toList ++ Rows.spanLawsSpec.plain.varTypes Try.prog) (ds ++ gs)).all (· ≤ reachBytes) = true := hsz0
  have hW' := hW
  have hlt : ∀ p ∈ before, p.block < W.heap.size := fun p hp => hW.lt p hp
  obtain ⟨p, q, hA0, hV, rfl, hfz, hnd⟩ := hW
  have hA : DataW.TrodAll enc Try.prog W 0 (fun _ => true) true Try.f7.params.toList args.toList ds p := hA0
  rw [Try.params7] at hA hval hsz
  obtain ⟨v0, v1, v2, d0, d1, d2, p0, p1, p2, rfl, rfl, rfl, h0, h1, h2⟩ := trodAll_three hA
  obtain ⟨rfl, rfl⟩ := trodVars_none hV
  have hall := List.all_eq_true.1 hsz
  obtain ⟨X0, n0, k0, z0, rfl, b0, u0⟩ := open_u16 (hval 0 26 v0 rfl rfl) h0 (fun n hn => by simpa using hall n (DataW.weights_mem_each (j := 0) (t := 26) rfl rfl n hn)) (fun y hy => hlt y (by simp [hy]))
  obtain ⟨X1, n1, k1, z1, rfl, b1, u1⟩ := open_u16 (hval 1 26 v1 rfl rfl) h1 (fun n hn => by simpa using hall n (DataW.weights_mem_each (j := 1) (t := 26) rfl rfl n hn)) (fun y hy => hlt y (by simp [hy]))
  obtain ⟨X2, n2, k2, z2, rfl, b2, u2⟩ := open_u16 (hval 2 26 v2 rfl rfl) h2 (fun n hn => by simpa using hall n (DataW.weights_mem_each (j := 2) (t := 26) rfl rfl n hn)) (fun y hy => hlt y (by simp [hy]))
  clear hA0 hval0 hsz0
  simp only [List.append_nil] at hW' hlt
  refine (laws_law z0 z1 z2 X0 X1 X2 n0 n1 n2 k0 k1 k2 W b0 b1 b2 u0 u1 u2).mono fun e W' ⟨he, hb⟩ => ?_
  subst he
  have m0 : ∀ z ∈ p0, z.block < W.heap.size := fun z hz => hlt z (by simp [hz])
  have m1 : ∀ z ∈ p1, z.block < W.heap.size := fun z hz => hlt z (by simp [hz])
  have m2 : ∀ z ∈ p2, z.block < W.heap.size := fun z hz => hlt z (by simp [hz])
  have t0 : ∀ sp : Nat → Bool, (∀ p ∈ p0 ++ p1 ++ p2, sp p.block = true) → DataW.Trod enc Try.prog W' 0 sp true 26 (.slice X0 n0 k0) d0 p0 := fun sp hsp =>
    WideElems.Trod_stays laid_out readU manyU h0 (fun x hx => hb.same (m0 x hx)) (fun x hx => by simpa using hsp x (by simp [hx]))
  have t1 : ∀ sp : Nat → Bool, (∀ p ∈ p0 ++ p1 ++ p2, sp p.block = true) → DataW.Trod enc Try.prog W' 0 sp true 26 (.slice X1 n1 k1) d1 p1 := fun sp hsp =>
    WideElems.Trod_stays laid_out readU manyU h1 (fun x hx => hb.same (m1 x hx)) (fun x hx => by simpa using hsp x (by simp [hx]))
  have t2 : ∀ sp : Nat → Bool, (∀ p ∈ p0 ++ p1 ++ p2, sp p.block = true) → DataW.Trod enc Try.prog W' 0 sp true 26 (.slice X2 n2 k2) d2 p2 := fun sp hsp =>
    WideElems.Trod_stays laid_out readU manyU h2 (fun x hx => hb.same (m2 x hx)) (fun x hx => by simpa using hsp x (by simp [hx]))
  exact ⟨_, rfl, post_of_below (pa := p0 ++ (p1 ++ p2)) (pv := []) hW' (fun _ _ _ => trodAll_mk1 (shut_bool Try.underlying4 true)) (fun sp hsp => trodAll_mk3 (t0 sp hsp) (t1 sp hsp) (t2 sp hsp)) (fun _ _ => rfl) (by simp) hb
    (ok_one (by kernel_rfl) rfl (okWide_bool_mk Try.underlying4 true))⟩

theorem spanLaws_holds : Rows.SpanLawsSaid :=
  OpenClaim.holds_of_wide 7 Try.f7 rfl rfl rfl rfl rfl rfl rfl ⟨rfl, rfl, rfl, rfl, rfl⟩ rfl rfl rfl rfl rfl (by kernel_rfl) Try.func7 (by kernel_rfl)
    (of_decide_eq_true (by kernel_rfl)) (by unfold Func.isWrapper; rw [if_neg (of_decide_eq_false (by kernel_rfl))]; exact ⟨rfl, rfl⟩)
    (fun os started H enc _ => spanLaws_lifted os started H enc)

#print axioms spanLaws_holds
end Go.Proofs.Ytpafnakepgjmnaa
