/- What the rows' condition on the two tables gives the walks, and a world that meets it. -/
import Derived.Test.YtmpkjooglpomoaaDoorRows
import Derived.Test.YtmpkjooglpomoaaDoorCa
import Derived.ProofKit
import Derived.LaidMore
import Derived.OpenShut
import Derived.Stop.Joined
import Derived.Lib.LaidU8
namespace Go.Proofs.YtmpkjooglpomoaaDoor
open Go.ChangeShapes Go.WideShapes Go.ChangeAt Go.RowKit Go.Lib

theorem own_none : ownKnob Tryd.prog.godebug = none := by kernel_rfl
/-- The tables that the rows list. -/
def tables : List (String × DataW Unit) := [("annuitant/calendar.lengths", Rows.laid_annuitant_calendar_lengths), ("annuitant/calendar.fields", Rows.laid_annuitant_calendar_fields)]
theorem gLen : Tryd.prog.globalNamed "annuitant/calendar.lengths" = some 0 := by kernel_rfl
theorem gFld : Tryd.prog.globalNamed "annuitant/calendar.fields" = some 1 := by kernel_rfl
theorem tLen : (Tryd.prog.globals[0]?).map (·.type) = some 42 := by kernel_rfl
theorem tFld : (Tryd.prog.globals[1]?).map (·.type) = some 57 := by kernel_rfl
theorem cells3 : Tryd.prog.cellsOf 3 = 1 := by kernel_rfl
theorem cells42 : Tryd.prog.cellsOf 42 = 12 := by kernel_rfl
theorem cells56 : Tryd.prog.cellsOf 56 = 2 := by kernel_rfl

/-- The door's own heap meets the condition. -/
theorem door_met (os : Os) (args : Array Value) : laidMetH Tryd.prog tables ((World.doorLaid Tryd.prog 400 os).forCall (fun _ _ => 0) ⟨#[], args, []⟩).memory :=
  laidMetH_of_parts3 (fuel := 8) (laidMet_of_run' 8 (by kernel_rfl) (by kernel_rfl)) (by kernel_rfl) (by kernel_rfl)

theorem two_of {l : List Value} {k : Nat} {a b : Value} (h : (l.drop k).take 2 = [a, b]) : l[k]? = some a ∧ l[k + 1]? = some b := by
  have h0 := congrArg (·[0]?) h
  have h1 := congrArg (·[1]?) h
  simp [List.getElem?_drop] at h0 h1
  exact ⟨h0, h1⟩
theorem pair_at {fuel : Nat} {cs : List Value} {p : List MemPlace} {a b : Int} {W : World} (h : DataW.trod (fun _ => ()) Tryd.prog W 0 (fun _ => true) false fuel 56 cs = some (.agg [.lit (.int .i64 a), .lit (.int .i64 b)], p)) :
    cs = [.int .i64 a, .int .i64 b] :=
  ints_of_struct (k := .i64) (zs := [a, b]) Tryd.underlying56 (fun i f hf => by
    rcases (by omega : i = 0 ∨ i = 1 ∨ 2 ≤ i) with h | h | h
    · subst h; obtain rfl := Option.some.inj hf; exact ⟨Tryd.underlying3, rfl, cells3⟩
    · subst h; obtain rfl := Option.some.inj hf; exact ⟨Tryd.underlying3, rfl, cells3⟩
    · rw [Array.getElem?_eq_none (by simpa using h)] at hf; cases hf) cells56 h

theorem of_laid {W : World} (h : laidMetH Tryd.prog tables W) : Laid W := by
  rw [MakeChecks.laidMetH_plain _ _ _ (by kernel_rfl)] at h
  obtain ⟨g0, t0, cs0, f0, p0, hg0, ht0, hv0, hd0⟩ := laidMet.reads h (n := "annuitant/calendar.lengths") (d := Rows.laid_annuitant_calendar_lengths) (.head _)
  obtain ⟨g1, t1, cs1, f1, p1, hg1, ht1, hv1, hd1⟩ := laidMet.reads h (n := "annuitant/calendar.fields") (d := Rows.laid_annuitant_calendar_fields) (.tail _ (.head _))
  obtain rfl := Option.some.inj (gLen.symm.trans hg0)
  obtain rfl := Option.some.inj (gFld.symm.trans hg1)
  obtain rfl := Option.some.inj (tLen.symm.trans ht0)
  obtain rfl := Option.some.inj (tFld.symm.trans ht1)
  have e0 : cs0.toList = [31, 28, 31, 30, 31, 30, 31, 31, 30, 31, 30, 31].map fun z => Value.int .i64 z := cells_of_tab (zs := [31, 28, 31, 30, 31, 30, 31, 31, 30, 31, 30, 31]) Tryd.underlying42 Tryd.underlying3 cells3 cells42 hd0
  have c0 : ∀ i, W.cell? ⟨0, i, none⟩ = cs0.toList[i]? := fun i => (World.var?_cell hg0 hv0 i).trans (by simp)
  have c1 : ∀ i, W.cell? ⟨1, i, none⟩ = cs1.toList[i]? := fun i => (World.var?_cell hg1 hv1 i).trans (by simp)
  rw [e0] at c0
  obtain ⟨k0, d0, q0, hx0, hy0⟩ := array_elem Tryd.underlying57 hd1 0 (by omega)
  obtain ⟨k1, d1, q1, hx1, hy1⟩ := array_elem Tryd.underlying57 hd1 1 (by omega)
  obtain ⟨k2, d2, q2, hx2, hy2⟩ := array_elem Tryd.underlying57 hd1 2 (by omega)
  obtain rfl := Option.some.inj hx0
  obtain rfl := Option.some.inj hx1
  obtain rfl := Option.some.inj hx2
  rw [cells56] at hy0 hy1 hy2
  have z0 := two_of (pair_at hy0)
  have z1 := two_of (pair_at hy1)
  have z2 := two_of (pair_at hy2)
  have l5 := (c1 5).trans z2.2
  refine ⟨?_, ⟨c0 0, c0 1, c0 2, c0 3, c0 4, c0 5, c0 6, c0 7, c0 8, c0 9, c0 10, c0 11⟩, ⟨(c1 0).trans z0.1, (c1 1).trans z0.2, (c1 2).trans z1.1, (c1 3).trans z1.2, (c1 4).trans z2.1, l5⟩⟩
  by_cases g : 2 ≤ W.heap.size
  · exact g
  · exfalso
    have : W.heap[1]? = none := Array.getElem?_eq_none (by omega)
    simp [World.cell?, this] at l5

theorem int_bounds {n : Int} (h : (Lit.int .i64 n).wf = true) : -9223372036854775808 ≤ n ∧ n ≤ 9223372036854775807 := by
  have h := Bool.and_eq_true_iff.1 h
  have h1 := of_decide_eq_true h.1
  have h2 := of_decide_eq_true h.2
  have e1 : IntKind.min .i64 = -9223372036854775808 := by decide
  have e2 : IntKind.max .i64 = 9223372036854775807 := by decide
  rw [e1] at h1
  rw [e2] at h2
  exact ⟨h1, h2⟩

section
variable {H : Type} {enc : TypeId × Value → H}
/-- The row's last step where the call left a world that holds all below as it was, and its one result is a bool. -/
theorem post_of_below {P : Program} {f : Func} {s : ChangeSpec} {apart fresh handsOn again : Bool} {W W' : World} {args : Array Value} {v : Value} {ds gs : List (DataW H)} {before pa pv : List MemPlace}
    (hW : DataW.Whole enc P f.params.toList s.vars apart W args.toList ds gs before)
    (hres : ∀ (b : Nat) (sp : Nat → Bool) (hd : Bool), DataW.TrodAll enc P W' b sp hd f.resultTypes.toList (v.resultList f.resultTypes.size) (s.fn H (ds ++ gs)).results [])
    (hargs : ∀ sp : Nat → Bool, (∀ p ∈ before, sp p.block = true) → DataW.TrodAll enc P W' 0 sp true f.params.toList args.toList (s.fn H (ds ++ gs)).args pa)
    (hvars : ∀ sp : Nat → Bool, (∀ p ∈ before, sp p.block = true) → DataW.TrodVars enc P W' sp s.vars (s.fn H (ds ++ gs)).vars pv)
    (hps : before = pa ++ pv) (hb : Below W.heap.size W W')
    (hok : ∀ (j : Nat) (t : TypeId) (r : Value), f.resultTypes[j]? = some t → (v.resultList f.resultTypes.size)[j]? = some r → Value.okWide P W' .any 0 t r) :
    s.post enc P f apart fresh handsOn again W args v W' := by
  have hlt : ∀ p ∈ before, p.block < W.heap.size := fun p hp => hW.lt p hp
  have hold : ∀ p ∈ before, (fun b => decide (b < W.heap.size)) p.block = true := fun p hp => by simpa using hlt p hp
  refine ⟨ds, gs, before, [], pa, pv, hW, hres _ _ _, hargs _ hold, hvars _ hold, World.keptBut_mono (fun p hp => ⟨hp, ?_⟩) (hb.frame (· ∈ before)), fun _ => ?_⟩
  · rw [hps, List.mem_append] at hp
    exact Or.inr hp
  · obtain ⟨_, _, _, _, _, hz, hn⟩ := hW
    refine ⟨hok, _, _, ([] ++ pa) ++ pv, ⟨[] ++ pa, pv, trodAll_append (hargs _ (fun _ _ => rfl)) (hres _ _ _), hvars _ (fun _ _ => rfl), rfl, ?_, ?_⟩, ?_⟩
    · intro b off hp
      have hin : MemPlace.cell b off ∈ before := by rw [hps]; simpa using hp
      rw [hb.frozen (hlt _ hin)]
      exact hz b off hin
    · intro ha
      have := hn ha
      rw [hps] at this
      simpa using this
    · intro p hp _
      rw [hps]
      simpa using hp
end
end Go.Proofs.YtmpkjooglpomoaaDoor
