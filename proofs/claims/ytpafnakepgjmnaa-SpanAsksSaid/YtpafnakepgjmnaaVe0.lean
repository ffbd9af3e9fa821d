/- A list of numbers that the function made itself. -/
import Derived.Test.YtpafnakepgjmnaaAw
import Derived.Test.YtpafnakepgjmnaaSp6
namespace Go.Proofs.Ytpafnakepgjmnaa
open Go.RowKit Go.Lib Go.Shelf

theorem info_int : (Try.prog.info? 3).map (fun i => (i.zero, i.size, i.bytes)) = some (some (.int .i64 0), 1, 8) := by kernel_rfl
def intsOf (L : List Int) : List Value := L.map (.int .i64 ·)
def OwnI (w : World) (base : Nat) (v : Value) (L : List Int) : Prop := w.ownsRow base 3 1 v L.length (intsOf L)

theorem cells_new {w : World} {B : Nat} (hB : B = w.heap.size) (t : TypeId) (cs : Array Value) : ∀ (j : Nat) (u : Value), cs.toList[j]? = some u → (w.alloc (.cells cs t)).cell? ((⟨B, 0, none⟩ : Addr).add j) = some u := by
  subst hB
  intro j u hu
  have hc := (Blk.new w t cs).cell j
  have e : (⟨w.heap.size, 0, none⟩ : Addr).add j = ⟨w.heap.size, j, none⟩ := by
    unfold Addr.add
    split
    · rename_i h; subst h; rfl
    · simp
  rw [e, hc]
  simpa using hu

section
variable {w w' : World} {base : Nat} {v : Value} {L : List Int}
theorem intsOf_append (a b : List Int) : intsOf (a ++ b) = intsOf a ++ intsOf b := by unfold intsOf; simp
theorem intsOf_one : ∀ u ∈ intsOf L, u.oneCell' = true := by
  intro u hu
  obtain ⟨z, _, rfl⟩ := List.mem_map.1 hu
  rfl
theorem OwnI.ne {g : Nat} {t : TypeId} {cs : Array Value} (h : OwnI w base v L) (hb : Blk w g t cs) (ht : t ≠ 3) : some g ≠ v.ownBlock := by
  intro e
  rcases h.2 with ⟨rfl, _⟩ | ⟨g', cap, cur, rfl, _, hg, _⟩
  · cases e
  · cases e
    unfold Blk at hb
    rw [hb] at hg
    cases hg
    exact ht rfl
theorem OwnI.below (h : OwnI w base v L) (hb : Below w.heap.size w w') : OwnI w' base v L := by
  refine ⟨h.1, ?_⟩
  rcases h.2 with h0 | ⟨g, cap, cur, e, h1, h2, h3⟩
  · exact .inl h0
  · exact .inr ⟨g, cap, cur, e, h1, (hb.block g (Array.getElem?_eq_some_iff.1 h2).1).trans h2, h3⟩
theorem OwnI.view (h : OwnI w base v L) : ∃ A c, v = .slice A L.length c ∧ (0 < L.length → ∃ g, A = some ⟨g, 0, none⟩ ∧ g < w.heap.size ∧ ∀ i, i < L.length → w.cell? ⟨g, i, none⟩ = some (.int .i64 (L.getD i 0))) := by
  have h' := h
  rcases h.2 with ⟨rfl, h0⟩ | ⟨g, cap, cur, rfl, _, hg, _⟩
  · obtain rfl : L = [] := List.eq_nil_of_length_eq_zero h0
    exact ⟨none, 0, rfl, fun h => absurd h (by simp)⟩
  · refine ⟨_, cap, rfl, fun _ => ⟨g, rfl, (Array.getElem?_eq_some_iff.1 hg).1, fun i hi => ?_⟩⟩
    have := World.ownsRow.cellAt h' i (by omega)
    rw [this]
    unfold intsOf
    simp [hi]
theorem OwnI.lit (w : World) (hb : base ≤ w.heap.size) (d : Int) : OwnI (w.alloc (.cells #[.int .i64 d] 3)) base (.slice (some ⟨w.heap.size, 0, none⟩) 1 1) [d] :=
  World.ownsRow_lit w #[.int .i64 d] 1 hb (by unfold maxLen; omega) rfl
end

theorem comb_mem {P : Bool → Bool → Bool} (hP : P false false = false) {a b : List Sp} (ha : IsSet a) (hb : IsSet b) (d : Int) : memB (combL P a b) d = P (memB a d) (memB b d) := by
  unfold combL
  rw [norm_mem]
  by_cases g : 0 ≤ d ∧ d < 65536
  · rw [decide_eq_true g.1, decide_eq_true g.2]; simp
  · have h1 : memB a d = false := by
      cases h : memB a d with
      | false => rfl
      | true => exact absurd (ha.mem h) g
    have h2 : memB b d = false := by
      cases h : memB b d with
      | false => rfl
      | true => exact absurd (hb.mem h) g
    rw [h1, h2, hP]; rfl
end Go.Proofs.Ytpafnakepgjmnaa
