/- Spans that a row of the call's own holds. -/
import Derived.Test.YtpafnakepgjmnaaSb
import Derived.Deep.AppendLies
import Derived.OwnWalk
namespace Go.Proofs.Ytpafnakepgjmnaa
open Go.RowKit Go.Lib

def cellsOf : List Sp → List Value
  | [] => []
  | s :: l => .int .i64 s.1 :: .int .i64 s.2 :: cellsOf l
theorem cells_len (l : List Sp) : (cellsOf l).length = l.length * 2 := by
  induction l with
  | nil => rfl
  | cons s l ih => simp only [cellsOf, List.length_cons, ih]; omega
theorem cells_append (a b : List Sp) : cellsOf (a ++ b) = cellsOf a ++ cellsOf b := by
  induction a with
  | nil => rfl
  | cons s a ih => simp only [List.cons_append, cellsOf, ih]
theorem cells_at {l : List Sp} {i : Nat} (h : i < l.length) : (cellsOf l)[i * 2]? = some (.int .i64 (fr l i)) ∧ (cellsOf l)[i * 2 + 1]? = some (.int .i64 (tt l i)) := by
  induction l generalizing i with
  | nil => simp at h
  | cons s l ih =>
    cases i with
    | zero => exact ⟨rfl, rfl⟩
    | succ i =>
      have := ih (i := i) (by simpa using h)
      rw [fr_succ, tt_succ, show (i + 1) * 2 = i * 2 + 2 by omega]
      exact this
theorem cells_set {l : List Sp} {q : Nat} (h : l.length = q + 1) (e : Int) : (cellsOf l).set (q * 2 + 1) (.int .i64 e) = cellsOf (ext l e) := by
  rcases List.eq_nil_or_concat l with rfl | ⟨S, t, rfl⟩
  · simp at h
  · rw [List.concat_eq_append] at *
    have hq : S.length = q := by simpa using h
    rw [ext_snoc, cells_append, cells_append, List.set_append_right _ _ (by rw [cells_len]; omega), cells_len, hq, show q * 2 + 1 - q * 2 = 1 by omega]
    rfl
theorem cells_one {l : List Sp} : ∀ u ∈ cellsOf l, u.oneCell' = true := by
  induction l with
  | nil => intro u hu; cases hu
  | cons s l ih =>
    intro u hu
    simp only [cellsOf, List.mem_cons] at hu
    rcases hu with rfl | rfl | hu
    · rfl
    · rfl
    · exact ih u hu

/-- The slice v owns a row that holds the spans l. -/
def OwnSp (w : World) (base : Nat) (v : Value) (l : List Sp) : Prop := w.ownsRow base 34 2 v l.length (cellsOf l)

section
variable {w w' : World} {base : Nat} {v : Value} {l : List Sp}
theorem ownSp_nil (w : World) (base : Nat) : OwnSp w base (.slice none 0 0) [] := World.ownsRow_nil w base _ 2
theorem OwnSp.view (h : OwnSp w base v l) : ∃ A c, v = .slice A l.length c ∧ l.length ≤ c ∧ c ≤ maxLen ∧ SpH w A l := by
  have h' := h
  rcases h.2 with ⟨rfl, h0⟩ | ⟨g, cap, cur, rfl, hbg, hg, hnc, hcm, _, _⟩
  · obtain rfl : l = [] := List.eq_nil_of_length_eq_zero h0
    exact ⟨none, 0, rfl, Nat.le_refl _, by unfold maxLen; omega, spH_nil w _⟩
  · refine ⟨_, cap, rfl, hnc, hcm, fun hl => ⟨g, 0, rfl, (Array.getElem?_eq_some_iff.1 hg).1, fun i hi => ?_⟩⟩
    have c := cells_at hi
    rw [Nat.zero_add]
    exact ⟨(h'.cellAt (i * 2) (by omega)).trans c.1, (h'.cellAt (i * 2 + 1) (by omega)).trans c.2⟩
theorem OwnSp.head {q : Nat} (h : OwnSp w base v l) (hq : l.length = q + 1) : ∃ g c, v = .slice (some ⟨g, 0, none⟩) (q + 1) c ∧ base ≤ g ∧ g < w.heap.size ∧
    w.cell? ⟨g, q * 2 + 1, none⟩ = some (.int .i64 (tt l q)) ∧ w.frozen? ⟨g, q * 2 + 1, none⟩ = false := by
  have h' := h
  rcases h.2 with ⟨rfl, h0⟩ | ⟨g, cap, cur, rfl, hbg, hg, hnc, hcm, _, _⟩
  · omega
  · refine ⟨g, cap, by rw [hq], hbg, (Array.getElem?_eq_some_iff.1 hg).1, (h'.cellAt (q * 2 + 1) (by omega)).trans (cells_at (by omega)).2, h'.frozenAt _⟩
theorem OwnSp.below (h : OwnSp w base v l) (hb : Below w.heap.size w w') : OwnSp w' base v l := by
  refine ⟨h.1, ?_⟩
  rcases h.2 with h0 | ⟨g, cap, cur, h1, h2, hg, h3⟩
  · exact .inl h0
  · exact .inr ⟨g, cap, cur, h1, h2, (hb.block g (Array.getElem?_eq_some_iff.1 hg).1).trans hg, h3⟩
theorem OwnSp.drewN (h : OwnSp w base v l) (n : Nat) : OwnSp (w.drewN n) base v l := h
theorem OwnSp.alloc (h : OwnSp w base v l) (o : Obj) : OwnSp (w.alloc o) base v l := World.ownsRow.alloc h o
theorem OwnSp.mono {base' : Nat} (h : OwnSp w base v l) (hb : base' ≤ base) : OwnSp w base' v l := by
  refine ⟨h.1, ?_⟩
  rcases h.2 with h0 | ⟨g, cap, cur, h1, h2, h3⟩
  · exact .inl h0
  · exact .inr ⟨g, cap, cur, h1, Nat.le_trans hb h2, h3⟩
theorem OwnSp.len (h : OwnSp w base v l) : l.length ≤ maxLen := by
  obtain ⟨_, _, _, h1, h2, _⟩ := h.view
  omega
/-- The last span is made to end at e. -/
theorem OwnSp.ext_ {q g c : Nat} (h : OwnSp w base (.slice (some ⟨g, 0, none⟩) (q + 1) c) l) (hq : l.length = q + 1) (e : Int) :
    OwnSp (w.setCell ⟨g, q * 2 + 1, none⟩ (.int .i64 e)) base (.slice (some ⟨g, 0, none⟩) (q + 1) c) (ext l e) := by
  have h1 : w.ownsRow base 34 2 (.slice (some ⟨g, 0, none⟩) (q + 1) c) (q + 1) (cellsOf l) := by
    have := h; unfold OwnSp at this; rwa [hq] at this
  have h2 := (h1.stored (q * 2 + 1) (.int .i64 e)).1
  rw [cells_set hq] at h2
  unfold OwnSp
  rwa [show (ext l e).length = q + 1 by unfold ext; simp; omega]
end

theorem info_sp : (Try.prog.info? 34).map (fun i => (i.zero, i.size, i.bytes)) = some (some (.agg #[.int .i64 0, .int .i64 0]), 2, 16) := by kernel_rfl
end Go.Proofs.Ytpafnakepgjmnaa
