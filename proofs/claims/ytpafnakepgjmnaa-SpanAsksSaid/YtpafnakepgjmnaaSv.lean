/- Contracts as the laws use them. -/
import Derived.Test.YtpafnakepgjmnaaSu
namespace Go.Proofs.Ytpafnakepgjmnaa
open Go.RowKit Go.Lib Go.Shelf

section
variable {la lb : List Sp} {A B : Option Addr} {na ca nb cb : Nat} {w : World}
theorem set_bd (ha : IsSet la) (hna : la.length = na) : na ≤ 65536 := by have := ha.len_bd; omega
theorem union_eq {R : List Sp} (hR : combL orB la lb = R) (ha : IsSet la) (hb : IsSet lb) (hna : la.length = na) (hnb : lb.length = nb) (hA : SpH w A la) (hB : SpH w B lb) : Calls Try.prog 16 #[.slice A na ca, .slice B nb cb] w (RetSpE w R 0) := by
  have h1 := set_bd ha hna
  have h2 := set_bd hb hnb
  have := union_any la lb A B na ca nb cb w hna hnb (by omega) (by omega) hA hB
  unfold combV combE at this
  rwa [if_pos ⟨ha, hb⟩, if_pos ⟨ha, hb⟩, hR] at this
theorem meet_eq {R : List Sp} (hR : combL andB la lb = R) (ha : IsSet la) (hb : IsSet lb) (hna : la.length = na) (hnb : lb.length = nb) (hA : SpH w A la) (hB : SpH w B lb) : Calls Try.prog 17 #[.slice A na ca, .slice B nb cb] w (RetSpE w R 0) := by
  have h1 := set_bd ha hna
  have h2 := set_bd hb hnb
  have := meet_any la lb A B na ca nb cb w hna hnb (by omega) (by omega) hA hB
  unfold combV combE at this
  rwa [if_pos ⟨ha, hb⟩, if_pos ⟨ha, hb⟩, hR] at this
theorem minus_eq {R : List Sp} (hR : combL butB la lb = R) (ha : IsSet la) (hb : IsSet lb) (hna : la.length = na) (hnb : lb.length = nb) (hA : SpH w A la) (hB : SpH w B lb) : Calls Try.prog 18 #[.slice A na ca, .slice B nb cb] w (RetSpE w R 0) := by
  have h1 := set_bd ha hna
  have h2 := set_bd hb hnb
  have := minus_any la lb A B na ca nb cb w hna hnb (by omega) (by omega) hA hB
  unfold combV combE at this
  rwa [if_pos ⟨ha, hb⟩, if_pos ⟨ha, hb⟩, hR] at this
theorem bridge_eq {R : List Sp} {d : Int} (hR : mergeL d la = R) (ha : IsSet la) (hd : 0 ≤ d) (hna : la.length = na) (hA : SpH w A la) : Calls Try.prog 30 #[.slice A na ca, .int .i64 d] w (RetSpE w R 0) := by
  rw [← hR]; exact bridge_yes la A na ca d w hna ha hd hA
theorem make_eq {R : List Sp} (hR : norm (memB la) = R) (hv : Vd la) (hm : na ≤ 8796093022000) (hna : la.length = na) (hA : SpH w A la) : Calls Try.prog 26 #[.slice A na ca] w (RetSpE w R 0) := by
  rw [← hR]; exact make_yes la A na ca w hna hm hv hA
theorem valid_eq {r : Bool} (hr : validB la = r) (hna : la.length = na) (hm : na ≤ 4611686018427387904) (hA : SpH w A la) : Calls Try.prog 19 #[.slice A na ca] w fun e w' => e = .returned (.bool r) ∧ Below w.heap.size w w' := by
  rw [← hr]; exact valid_any la A na ca w hna hm hA
theorem days_eq {r : Int} (hr : lenSum la = r) (ha : IsSet la) (hna : la.length = na) (hA : SpH w A la) : Calls Try.prog 22 #[.slice A na ca] w fun e w' => e = .returned (.int .i64 r) ∧ Below w.heap.size w w' := by
  rw [← hr]; exact days_yes la A na ca w hna ha hA
theorem before_eq {r d : Int} (hr : befL la d = r) (ha : IsSet la) (hna : la.length = na) (hnc : na ≤ ca) (hA : SpH w A la) : Calls Try.prog 29 #[.slice A na ca, .int .i64 d] w fun e w' => e = .returned (.int .i64 r) ∧ Below w.heap.size w w' := by
  rw [← hr]; exact before_yes la A na ca d w hna hnc ha hA
theorem has_eq {r : Bool} {d : Int} (hr : memB la d = r) (ha : IsSet la) (hna : la.length = na) (hA : SpH w A la) : Calls Try.prog 21 #[.slice A na ca, .int .i64 d] w fun e w' => e = .returned (.bool r) ∧ Below w.heap.size w w' := by
  rw [← hr]; exact has_yes la A na ca d w hna ha hA
theorem nth_eq {r d : Int} {b : Bool} (hr : (nthL la d).getD 0 = r) (hb : (nthL la d).isSome = b) (ha : IsSet la) (hd : 0 ≤ d) (hd2 : d ≤ 9223372036854775807) (hna : la.length = na) (hA : SpH w A la) : Calls Try.prog 28 #[.slice A na ca, .int .i64 d] w fun e w' => e = .returned (.tuple #[.int .i64 r, .bool b]) ∧ Below w.heap.size w w' := by
  rw [← hr, ← hb]; exact nth_yes la A na ca d w hna ha hd hd2 hA
theorem within_eq {r : Bool} (hr : withinB la lb = r) (ha : IsSet la) (hb : IsSet lb) (hna : la.length = na) (hnb : lb.length = nb) (hA : SpH w A la) (hB : SpH w B lb) : Calls Try.prog 23 #[.slice A na ca, .slice B nb cb] w fun e w' => e = .returned (.bool r) ∧ Below w.heap.size w w' := by
  rw [← hr]; exact within_yes la lb A B na ca nb cb w hna hnb ha hb hA hB
theorem same_eq {r : Bool} (hr : decide (la = lb) = r) (hna : la.length = na) (hnb : lb.length = nb) (hma : na ≤ 4611686018427387904) (hmb : nb ≤ 4611686018427387904) (hA : SpH w A la) (hB : SpH w B lb) : Calls Try.prog 25 #[.slice A na ca, .slice B nb cb] w fun e w' => e = .returned (.bool r) ∧ Below w.heap.size w w' := by
  rw [← hr]; exact same_any la lb A B na ca nb cb w hna hnb hma hmb hA hB
end

/-- A row that was written out. -/
theorem Blk.sp {w : World} {g : Nat} {l : List Sp} (h : Blk w g 34 (cellsOf l).toArray) : SpH w (some ⟨g, 0, none⟩) l := fun _ => by
  refine ⟨g, 0, rfl, h.lt, fun i hi => ?_⟩
  have := cells_at hi
  rw [Nat.zero_add, h.cell, h.cell]
  simpa using this
end Go.Proofs.Ytpafnakepgjmnaa
