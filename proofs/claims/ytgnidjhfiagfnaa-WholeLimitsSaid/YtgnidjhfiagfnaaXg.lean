/- WholeWrong, for every input: if an argument is invalid, every function of whole that can return an error returns ErrArg and zero values, and Cmp returns 0. Conditions: none. -/
import Derived.Test.YtgnidjhfiagfnaaXf
import Derived.Test.YtgnidjhfiagfnaaRows
import Derived.OpenShut
import Derived.ProofKit
import Derived.SizedLaws
import Derived.Below
import Derived.ChangeSame
import Derived.Lib.SmallJoins
namespace Go.Proofs.Ytgnidjhfiagfnaa
open Go.ChangeShapes Go.WideShapes Go.ChangeAt Go.RowKit Go.Joins

theorem own_none : ownKnob Try.prog.godebug = none := by kernel_rfl
theorem laid_out : laidOutB Try.prog = true := by kernel_rfl
theorem readable26 : Try.prog.readableRec 26 = true := by kernel_rfl
theorem types_many : 26 < Try.prog.types.size := of_decide_eq_true (by kernel_rfl)
theorem cellsOf26 : Try.prog.cellsOf 26 = 2 := by kernel_rfl
theorem cellsOf22 : Try.prog.cellsOf 22 = 1 := by kernel_rfl
theorem bytesOf22 : Try.prog.bytesOf 22 = 2 := by kernel_rfl

section
variable {H : Type} {enc : TypeId × Value → H}

theorem open_whole {W : World} {base : Nat} {v : Value} {d : DataW H} {p : List MemPlace} (hv : Value.okWide Try.prog W .any base 26 v) (h : DataW.Trod enc Try.prog W 0 (fun _ => true) true 26 v d p) (hsz : ∀ n ∈ DataW.weights Try.prog 26 d, n ≤ reachBytes) (hlt : ∀ x ∈ p, x.block < W.heap.size) :
    ∃ x l, Wh W v x l := by
  obtain ⟨c0, c1, y0, y1, m, rfl, rfl, rfl, hy0, hy1⟩ := open_agg2 Try.underlying26 (by kernel_rfl) cellsOf26 hv h
  obtain ⟨x, e0, rfl⟩ := DataW.trod_bool Try.underlying4 hy0
  simp at e0
  subst e0
  rcases open_ints Try.underlying24 Try.underlying22 cellsOf22 hy1 with ⟨hcs, hx⟩ | ⟨a, len, cap, zs, hcs, _, hl, hm, hz, hx, hcell, hwz⟩
  · simp at hcs
    subst hcs
    exact ⟨x, [], none, 0, rfl, Sl.nil W⟩
  · simp at hcs
    subst hcs
    subst hx
    have hzl : zs.length = cap := by simpa using hz
    have hr : cap * 2 ≤ reachBytes := by
      have := hsz ((((zs.take len).map (fun z => (DataW.lit (Lit.int .u16 z) : DataW H))).length + ((zs.drop len).map (fun z => (DataW.lit (Lit.int .u16 z) : DataW H))).length) * Try.prog.bytesOf 22) (by simp [DataW.weights, DataW.weightsEach, Try.underlying26, Try.underlying24, lits])
      rw [bytesOf22] at this
      simp only [List.length_map, List.length_take, List.length_drop] at this
      have e : min len zs.length + (zs.length - len) = cap := by omega
      rw [e] at this
      exact this
    simp only [reachBytes] at hr
    have hll : ((zs.take len).map Int.toNat).length = len := by simp; omega
    have hwf : ∀ z ∈ zs, 0 ≤ z ∧ z < 65536 := fun z hz => by
      have := bounds_u16 (hwz z hz)
      omega
    refine ⟨x, (zs.take len).map Int.toNat, some a, cap, by rw [hll], ?_, by omega, some a, cap, by rw [hll], by omega, hm, ?_⟩
    · intro n hn
      obtain ⟨z, hz1, rfl⟩ := List.mem_map.1 hn
      have := hwf z (List.mem_of_mem_take hz1)
      omega
    · intro hne
      have hpos : 0 < zs.length := by
        cases zs with
        | nil => simp at hne
        | cons => simp
      obtain ⟨b, off, rfl, hc⟩ := ints_at hcell hpos
      refine ⟨b, off, rfl, ?_, ?_⟩
      · have h0 := hc 0 hpos
        exact World.block_lt_of_cell? W _ h0
      · intro j hj
        rw [hll] at hj
        rw [hc j (by omega)]
        have hjz : j < zs.length := by omega
        have h1 := hwf (zs[j]) (List.getElem_mem hjz)
        simp [nth, List.getD, hjz, hj]
        omega

/-- The row's last step where the call left a world that holds all below as it was, and its one result is a bool. -/
theorem post_of_below {P : Program} {f : Func} {s : ChangeSpec} {apart fresh handsOn again : Bool} {W W' : World} {args : Array Value} {v : Value} {ds gs : List (DataW H)} {before pa pv : List MemPlace}
    (hW : DataW.Whole enc P f.params.toList s.vars apart W args.toList ds gs before)
    (hres : ∀ (b : Nat) (sp : Nat → Bool) (hd : Bool), DataW.TrodAll enc P W' b sp hd f.resultTypes.toList (v.resultList f.resultTypes.size) (s.fn H (ds ++ gs)).results [])
    (hargs : ∀ sp : Nat → Bool, (∀ p ∈ before, sp p.block = true) → DataW.TrodAll enc P W' 0 sp true f.params.toList args.toList (s.fn H (ds ++ gs)).args pa)
    (hvars : ∀ sp : Nat → Bool, (∀ p ∈ before, sp p.block = true) → DataW.TrodVars enc P W' sp s.vars (s.fn H (ds ++ gs)).vars pv)
    (hps : before = pa ++ pv) (hb : Below W.heap.size W W')
    (hok : ∀ (j : Nat) (t : TypeId) (r : Value), f.resultTypes[j]? = some t → (v.resultList f.resultTypes.size)[j]? = some r → Value.okWide P W' .any 0 t r) :
    s.post enc P f apart fresh handsOn again W args v W' := by
  have hlt : ∀ p ∈ before, p.block < W.heap.size := fun p hp => hW.lt p hp
  have hold : ∀ p ∈ before, (fun b => decide (b < W.heap.size)) p.block = true := fun p hp => by simpa using hlt p hp
  refine ⟨ds, gs, before, [], pa, pv, hW, hres _ _ _, hargs _ hold, hvars _ hold, World.keptBut_mono (fun p hp => ⟨hp, ?_⟩) (hb.frame (· ∈ before)), fun _ => ?_⟩
  · rw [hps, List.mem_append] at hp
    exact Or.inr hp
  · obtain ⟨_, _, _, _, _, hz, hn⟩ := hW
    refine ⟨hok, _, _, ([] ++ pa) ++ pv, ⟨[] ++ pa, pv, trodAll_append (hargs _ (fun _ _ => rfl)) (hres _ _ _), hvars _ (fun _ _ => rfl), rfl, ?_, ?_⟩, ?_⟩
    · intro b off hp
      have hin : MemPlace.cell b off ∈ before := by rw [hps]; simpa using hp
      rw [hb.frozen (hlt _ hin)]
      exact hz b off hin
    · intro ha
      have := hn ha
      rw [hps] at this
      simpa using this
    · intro p hp _
      rw [hps]
      simpa using hp
end

set_option maxRecDepth 100000 in
theorem wholeWrong_lifted (os : Os) (started : os.Started) (H : Type) (enc : TypeId × Value → H) :
    ReturnsInHanded {} Try.checked os 11 .any (Rows.wholeWrongSpec.pre6 enc Try.prog Try.f11 Rows.wholeWrongRow.domain false) (Rows.wholeWrongSpec.post enc Try.prog Try.f11 false true false false) := by
  refine returnsInHanded_of_change_sized (C := Try.checked) own_none started (by kernel_rfl) Try.func11
    (ChangeSpec.witness6 (enc := enc) (C := Try.checked) false ⟨#[], #[.agg #[.bool false, .slice none 0 0], .agg #[.bool false, .slice none 0 0]], []⟩ 8 (by kernel_rfl) (by kernel_rfl) (by kernel_rfl) (by kernel_rfl)) ?_
  intro W base args ds gs before hval0 hW hcnd hsz0 _
  have hval : ∀ (j : Nat) t v, Try.f11.params[j]? = some t → args[j]? = some v → Value.okWide Try.prog W .any base t v := hval0
  have hsz : (DataW.weightsEach Try.prog (Try.f11.params.toList ++ Rows.wholeWrongSpec.plain.varTypes Try.prog) (ds ++ gs)).all (· ≤ reachBytes) = true := hsz0
  have hW' := hW
  have hlt : ∀ p ∈ before, p.block < W.heap.size := fun p hp => hW.lt p hp
  obtain ⟨p, q, hA0, hV, rfl, hfz, hnd⟩ := hW
  have hA : DataW.TrodAll enc Try.prog W 0 (fun _ => true) true Try.f11.params.toList args.toList ds p := hA0
  rw [Try.params11] at hA hval hsz
  obtain ⟨v0, v1, d0, d1, p0, p1, rfl, rfl, rfl, h0, h1⟩ := trodAll_two hA
  obtain ⟨rfl, rfl⟩ := trodVars_none hV
  have hall := List.all_eq_true.1 hsz
  obtain ⟨x, la, hx⟩ := open_whole (hval 0 26 v0 rfl rfl) h0 (fun n hn => by simpa using hall n (DataW.weights_mem_each (j := 0) (t := 26) rfl rfl n hn)) (fun y hy => hlt y (by simp [hy]))
  obtain ⟨y, lb, hy⟩ := open_whole (hval 1 26 v1 rfl rfl) h1 (fun n hn => by simpa using hall n (DataW.weights_mem_each (j := 1) (t := 26) rfl rfl n hn)) (fun y hy => hlt y (by simp [hy]))
  clear hA0 hval0 hsz0
  simp only [List.append_nil] at hW' hlt
  refine (wrong_any hx hy).mono fun e W' ⟨he, hb⟩ => ?_
  subst he
  have l0 : ∀ z ∈ p0, z.block < W.heap.size := fun z hz => hlt z (by simp [hz])
  have l1 : ∀ z ∈ p1, z.block < W.heap.size := fun z hz => hlt z (by simp [hz])
  have t0 : ∀ sp : Nat → Bool, (∀ p ∈ p0 ++ p1, sp p.block = true) → DataW.Trod enc Try.prog W' 0 sp true 26 v0 d0 p0 := fun sp hsp =>
    WideElems.Trod_stays laid_out readable26 types_many h0 (fun x hx => hb.same (l0 x hx)) (fun x hx => by simpa using hsp x (by simp [hx]))
  have t1 : ∀ sp : Nat → Bool, (∀ p ∈ p0 ++ p1, sp p.block = true) → DataW.Trod enc Try.prog W' 0 sp true 26 v1 d1 p1 := fun sp hsp =>
    WideElems.Trod_stays laid_out readable26 types_many h1 (fun x hx => hb.same (l1 x hx)) (fun x hx => by simpa using hsp x (by simp [hx]))
  exact ⟨_, rfl, post_of_below (pa := p0 ++ p1) (pv := []) hW' (fun _ _ _ => trodAll_mk1 (shut_bool Try.underlying4 true)) (fun sp hsp => trodAll_mk2 (t0 sp hsp) (t1 sp hsp)) (fun _ _ => rfl) (by simp) hb
    (ok_one (by kernel_rfl) rfl (okWide_bool_mk Try.underlying4 true))⟩

theorem wholeWrong_holds : Rows.WholeWrongSaid :=
  OpenClaim.holds_of_wide 11 Try.f11 rfl rfl rfl rfl rfl rfl rfl ⟨rfl, rfl, rfl, rfl, rfl⟩ rfl rfl rfl rfl rfl (by kernel_rfl) Try.func11 (by kernel_rfl)
    (of_decide_eq_true (by kernel_rfl)) (by unfold Func.isWrapper; rw [if_neg (of_decide_eq_false (by kernel_rfl))]; exact ⟨rfl, rfl⟩)
    (fun os started H enc _ => wholeWrong_lifted os started H enc)

#print axioms wholeWrong_holds
end Go.Proofs.Ytgnidjhfiagfnaa
