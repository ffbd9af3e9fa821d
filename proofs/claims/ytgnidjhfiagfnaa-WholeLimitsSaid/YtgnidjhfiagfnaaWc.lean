/- The statement that ranges over limbs from the most significant one on, as a rule for walks: an invariant that counts down. Conditions: as the rule's premises say. -/
import Derived.Test.YtgnidjhfiagfnaaWb
namespace Go.Proofs.Ytgnidjhfiagfnaa
open Go.RowKit Go.Shelf
attribute [local go_sem] Oper.semAt_some

/-- How the body of a round may be left: k limbs are still to come. -/
def downPost (B : Nat) (I : Nat → World → Prop) (Ix : Code → World → Prop) (k : Nat) (W : World) : Exit → Act → World → Prop
  | .normal, _, W' => KeepsFrom B W W' ∧ I k W'
  | .ret, _, W' => KeepsFrom B W W' ∧ Ix .ret W'
  | _, _, _ => False

/-- Each round: the record is there and its state is as it should be. -/
theorem wpIn_down {n : Nat} {g : Operand} {p q : Tmp} {assign body : Code} {Q : Exit → Act → World → Prop} {a : Act} {w : World}
    (hn : 2 ≤ n) (Bs b off len cap : Nat) (A : Option Addr) (hg : a.eval g = .func (.func 87) #[] #[.pointer (some ⟨Bs, 0, none⟩)])
    (hlen : len ≤ 4611686018427387904) (hA : 0 < len → A = some ⟨b, off, none⟩) (x : Nat → Nat) (I : Nat → World → Prop) (Ix : Code → World → Prop)
    (hI : OwnFrom w.heap.size I) (hIx : OwnFrom w.heap.size Ix)
    (hIs : ∀ k W, I k W → W.cell? ⟨Bs, 0, none⟩ = some (.slice A len cap))
    (hIc : ∀ k W, k < len → I (k + 1) W → W.cell? ⟨b, off + k, none⟩ = some (.int .u16 (x k)))
    (h0 : I len w) (a₁ : Nat → Act)
    (hassign : ∀ (l k : Nat) (W : World) (K : Act → World → Prop), K (a₁ k) W →
      assign.wpIn (Fence.wide.inRound l) (n - 1 - 1) Try.prog (Exit.then K (fun _ _ _ => False)) { tmps := (a.tmps.setIfInBounds p (.int .i64 k)).setIfInBounds q (.int .u16 (x k)), defers := [] } W)
    (hbody : ∀ (l k : Nat) (W : World), k < len → I (k + 1) W → body.wpIn (Fence.wide.inRound l) (n - 1 - 1) Try.prog (downPost w.heap.size I Ix k W) (a₁ k) W)
    (hdone : ∀ (D : Nat) (W : World), w.heap.size ≤ D → I 0 W → W.heap[D]? = some (.deferred (some [])) → Q .normal { a with defers := { target := .collected D, args := #[] } :: a.defers } W)
    (hstop : ∀ (D : Nat) (W : World), w.heap.size ≤ D → Ix .ret W → W.heap[D]? = some (.deferred (some [])) → Code.ret.wpIn Fence.wide n Try.prog Q { a with defers := { target := .collected D, args := #[] } :: a.defers } W) :
    (Code.rangeFunc g #[p, q] assign body).wpIn Fence.wide n Try.prog Q a w := by
  refine wpIn_rangeFunc ?_
  intro fn hfn
  let base : Loop := { state := .ready, pending := none, fn := fn, tmps := a.tmps, params := #[p, q], assign := assign, body := body, defers := w.heap.size }
  have hout := run_enterLoop_outer (P := Try.prog) (w := w) fn a.tmps #[p, q] assign body
  generalize hV : (w.alloc (.deferred (some []))).alloc (.loop base) = V at *
  have vl : V.heap[w.heap.size + 1]? = some (.loop base) := by
    subst hV
    have := World.alloc_heap_new (w.alloc (.deferred (some []))) (.loop base)
    rwa [World.size_alloc] at this
  have vd : V.heap[w.heap.size]? = some (.deferred (some [])) := by
    subst hV
    exact (Below.heap_alloc _ _ _ (by simp)).trans (World.alloc_heap_new w _)
  have vi : I len V := by
    subst hV
    exact hI.alloc _ (hI.alloc _ h0)
  have hout' : (Instr.enterLoop fn a.tmps #[p, q] assign body Fence.wide.round).run Try.prog w = .ok (w.heap.size + 1, [{ target := .collected w.heap.size, args := #[] }]) V := hout
  refine ⟨w.heap.size + 1, [{ target := .collected w.heap.size, args := #[] }], V, { target := .fn (.func 87) #[.pointer (some ⟨Bs, 0, none⟩)], args := #[.func (.yield (w.heap.size + 1)) #[] #[]] }, V, 87,
    #[.func (.yield (w.heap.size + 1)) #[] #[], .pointer (some ⟨Bs, 0, none⟩)], V, hout', ?_, fun _ _ => trivial, ?_, fun _ => by omega, ?_⟩
  · simp only [resolve, hg]
    simp [go_sem]
  · have eg := enters_of Try.func87 (by kernel_rfl) rfl
    simp [invoke, go_sem]
  let J : Nat → World → Prop := fun k W => I k W ∧ W.heap[w.heap.size + 1]? = some (.loop base) ∧ W.heap[w.heap.size]? = some (.deferred (some []))
  let Jx : World → Prop := fun W => Ix .ret W ∧ W.heap[w.heap.size + 1]? = some (.loop { base with state := .done, pending := some .ret }) ∧ W.heap[w.heap.size]? = some (.deferred (some []))
  refine (down_in Fence.wide (n - 1) trivial rfl (by omega) (w.heap.size + 1) Bs b off len cap A hlen hA x J Jx (fun k W h => hIs k W h.1) (fun k W hk h => hIc k W hk h.1) ?_ V ⟨vi, vl, vd⟩).mono ?_
  · rintro k W hk ⟨hi, hl, hd⟩
    have hlt : w.heap.size + 1 < W.heap.size := (Array.getElem?_eq_some_iff.1 hl).1
    have hy := run_yield (P := Try.prog) (args := #[.int .i64 (k : Int), .int .u16 (x k : Int)]) hl rfl
    refine ⟨fn, _, assign, body, hy, roundIn_of_wpIn hfn ?_⟩
    have ez : (base.params.zip #[Value.int .i64 (k : Int), Value.int .u16 (x k : Int)]).foldl (fun t (y, v) => t.setIfInBounds y v) base.tmps = (a.tmps.setIfInBounds p (.int .i64 k)).setIfInBounds q (.int .u16 (x k)) := by
      simp [base]
    rw [ez]
    refine hassign _ k W _ ?_
    refine ⟨_, run_beginRound hl rfl, ?_⟩
    generalize hU : W.putObj (w.heap.size + 1) (.loop { base with state := .busy }) = U
    have ul : U.heap[w.heap.size + 1]? = some (.loop { base with state := .busy }) := by subst hU; exact World.putObj_heap_same hlt
    have ud : U.heap[w.heap.size]? = some (.deferred (some [])) := by subst hU; exact (World.putObj_heap_other (by omega)).trans hd
    have ui : I (k + 1) U := by subst hU; exact hI.putObj _ hi (by omega) hl rfl
    refine wpIn_mono (hbody _ k U hk ui) ?_
    intro e a3 W3 hp
    cases e with
    | normal =>
      obtain ⟨hk3, hi3⟩ := hp
      have l3 := hk3.same _ _ (by omega) ul rfl
      have d3 := hk3.same _ _ (Nat.le_refl _) ud rfl
      refine ⟨_, _, run_endRound none l3, .inl ⟨rfl, hI.putObj _ hi3 (by omega) l3 rfl, ?_, (World.putObj_heap_other (by omega)).trans d3⟩⟩
      exact World.putObj_heap_same (Array.getElem?_eq_some_iff.1 l3).1
    | ret =>
      obtain ⟨hk3, hi3⟩ := hp
      have l3 := hk3.same _ _ (by omega) ul rfl
      have d3 := hk3.same _ _ (Nat.le_refl _) ud rfl
      refine ⟨_, _, run_endRound (some .ret) l3, .inr ⟨rfl, hIx.putObj _ hi3 (by omega) l3 rfl, ?_, (World.putObj_heap_other (by omega)).trans d3⟩⟩
      exact World.putObj_heap_same (Array.getElem?_eq_some_iff.1 l3).1
    | exit id => exact hp.elim
    | goto t => exact hp.elim
    | panic ch => exact hp.elim
    | outgrown => exact hp.elim
  · rintro e W2 ⟨⟨v, rfl⟩, (⟨hi, hl, hd⟩ | ⟨hi, hl, hd⟩)⟩
    · exact ⟨none, _, run_endLoop hl (by simp [base]), hdone _ _ (Nat.le_refl _) (hI.putObj _ hi (by omega) hl rfl) ((World.putObj_heap_other (by omega)).trans hd)⟩
    · exact ⟨some .ret, _, run_endLoop hl (by simp), hstop _ _ (Nat.le_refl _) (hIx.putObj _ hi (by omega) hl rfl) ((World.putObj_heap_other (by omega)).trans hd)⟩
end Go.Proofs.Ytgnidjhfiagfnaa
