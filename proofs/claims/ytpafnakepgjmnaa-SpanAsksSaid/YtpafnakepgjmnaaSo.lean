/- The statement that ranges over the days at which membership changes, as a rule for walks. -/
import Derived.Test.YtpafnakepgjmnaaSn
namespace Go.Proofs.Ytpafnakepgjmnaa
open Go.RowKit Go.Lib Go.Shelf
attribute [local go_sem] Oper.semAt_some

/-- How the body of a round may be left: the four blocks of the loop's own lie as they lay. -/
def chPost (B : Nat) (I : World → Prop) (Ix : World → Prop) (W : World) : Exit → Act → World → Prop
  | .normal, _, W' => (W.heap.size ≤ W'.heap.size ∧ ∀ r, B ≤ r → r < B + 4 → W'.heap[r]? = W.heap[r]?) ∧ I W'
  | .ret, _, W' => (W.heap.size ≤ W'.heap.size ∧ ∀ r, B ≤ r → r < B + 4 → W'.heap[r]? = W.heap[r]?) ∧ Ix W'
  | _, _, _ => False

theorem wpIn_changes {n : Nat} {g : Operand} {p q : Tmp} {assign body : Code} {Q : Exit → Act → World → Prop} {a : Act} {w : World}
    (hn : 3 ≤ n) (la lb : List Sp) (A B : Option Addr) (na ca nb cb p1 p2 : Nat) (hg : a.eval g = .func (.func 60) #[] #[.pointer (some ⟨p1, 0, none⟩), .pointer (some ⟨p2, 0, none⟩)])
    (hna : Hid (la.length = na)) (hnb : Hid (lb.length = nb)) (hsa : Hid (IsSet la)) (hsb : Hid (IsSet lb)) (hma : na ≤ 65536) (hmb : nb ≤ 65536)
    (I : Nat → Nat → World → Prop) (Ix : World → Prop)
    (hI : ∀ i j W W' row, I i j W → W.grownBy W' row → (∀ r, row = some r → w.heap.size ≤ r ∧ r < w.heap.size + 4) → I i j W')
    (hIx : ∀ W W' row, Ix W → W.grownBy W' row → (∀ r, row = some r → w.heap.size ≤ r ∧ r < w.heap.size + 4) → Ix W')
    (hI1 : ∀ i j W, I i j W → SpH W A la ∧ SpH W B lb)
    (c1 : w.cell? ⟨p1, 0, none⟩ = some (.slice A na ca)) (c2 : w.cell? ⟨p2, 0, none⟩ = some (.slice B nb cb))
    (h0 : I 0 0 w) (a₁ : Int → Bool → Bool → Nat → Act)
    (hassign : ∀ (l : Nat) (D : Int) (x y : Bool) (W : World) (K : Act → World → Prop), K (a₁ D x y W.heap.size) (W.alloc (.cells #[.bool x, .bool y] 59)) →
      assign.wpIn (Fence.wide.inRound l) (n - 1 - 1) Try.prog (Exit.then K (fun _ _ _ => False)) { tmps := (a.tmps.setIfInBounds p (.int .i64 D)).setIfInBounds q (.agg #[.bool x, .bool y]), defers := [] } W)
    (hbody : ∀ (l i j : Nat) (W : World) (gx : Nat), i ≤ 2 * na → j ≤ 2 * nb → nxtD la lb i j ≠ 65537 → w.heap.size + 4 ≤ gx → I i j W → Blk W gx 59 #[.bool (odd (nxtI la lb i j)), .bool (odd (nxtJ la lb i j))] →
      body.wpIn (Fence.wide.inRound l) (n - 1 - 1) Try.prog (chPost w.heap.size (I (nxtI la lb i j) (nxtJ la lb i j)) Ix W) (a₁ (nxtD la lb i j) (odd (nxtI la lb i j)) (odd (nxtJ la lb i j)) gx) W)
    (hdone : ∀ (D : Nat) (W : World), w.heap.size ≤ D → D < w.heap.size + 4 → I (2 * na) (2 * nb) W → W.heap[D]? = some (.deferred (some [])) → Q .normal { a with defers := { target := .collected D, args := #[] } :: a.defers } W)
    (hstop : ∀ (D : Nat) (W : World), w.heap.size ≤ D → D < w.heap.size + 4 → Ix W → W.heap[D]? = some (.deferred (some [])) → Code.ret.wpIn Fence.wide n Try.prog Q { a with defers := { target := .collected D, args := #[] } :: a.defers } W) :
    (Code.rangeFunc g #[p, q] assign body).wpIn Fence.wide n Try.prog Q a w := by
  refine wpIn_rangeFunc ?_
  intro fn hfn
  let base : Loop := { state := .ready, pending := none, fn := fn, tmps := a.tmps, params := #[p, q], assign := assign, body := body, defers := w.heap.size }
  have hout := run_enterLoop_outer (P := Try.prog) (w := w) fn a.tmps #[p, q] assign body
  have hp1 := cell_lt c1
  have hp2 := cell_lt c2
  generalize hV : (w.alloc (.deferred (some []))).alloc (.loop base) = V at *
  have vsz : V.heap.size = w.heap.size + 2 := by subst hV; simp
  have vl : V.heap[w.heap.size + 1]? = some (.loop base) := by
    subst hV
    have := World.alloc_heap_new (w.alloc (.deferred (some []))) (.loop base)
    rwa [World.size_alloc] at this
  have vd : V.heap[w.heap.size]? = some (.deferred (some [])) := by
    subst hV
    exact (Below.heap_alloc _ _ _ (by simp)).trans (World.alloc_heap_new w _)
  have vb : Below w.heap.size w V := by
    subst hV
    exact ((Below.refl _ w).alloc (Nat.le_refl _) _).alloc (by simp) _
  have vi : I 0 0 V := hI 0 0 w V none h0 (only_of_below vb none) (fun r e => by cases e)
  have hout' : (Instr.enterLoop fn a.tmps #[p, q] assign body Fence.wide.round).run Try.prog w = .ok (w.heap.size + 1, [{ target := .collected w.heap.size, args := #[] }]) V := hout
  refine ⟨w.heap.size + 1, [{ target := .collected w.heap.size, args := #[] }], V, { target := .fn (.func 60) #[.pointer (some ⟨p1, 0, none⟩), .pointer (some ⟨p2, 0, none⟩)], args := #[.func (.yield (w.heap.size + 1)) #[] #[]] }, V, 60,
    #[.func (.yield (w.heap.size + 1)) #[] #[], .pointer (some ⟨p1, 0, none⟩), .pointer (some ⟨p2, 0, none⟩)], V, hout', ?_, fun _ _ => trivial, ?_, fun _ => by omega, ?_⟩
  · simp only [resolve, hg]
    simp [go_sem]
  · have eg := enters_of Try.func60 (by kernel_rfl) rfl
    simp [invoke, go_sem]
  let J : Nat → Nat → World → Prop := fun i j W => I i j W ∧ W.heap[w.heap.size + 1]? = some (.loop base) ∧ W.heap[w.heap.size]? = some (.deferred (some []))
  let Jx : World → Prop := fun W => Ix W ∧ W.heap[w.heap.size + 1]? = some (.loop { base with state := .done, pending := some .ret }) ∧ W.heap[w.heap.size]? = some (.deferred (some []))
  refine (changes_in (n - 1) (w.heap.size + 1) (by omega) la lb A B na ca nb cb p1 p2 (w.heap.size + 2) J Jx hna hnb hsa hsb hma hmb (fun i j W h => hI1 i j W h.1) V vsz ((vb.cell (p := ⟨p1, 0, none⟩) hp1).trans c1) ((vb.cell (p := ⟨p2, 0, none⟩) hp2).trans c2) ?_ ?_ ⟨vi, vl, vd⟩).mono ?_
  · rintro i j W W' row ⟨hi, hl, hd⟩ hgr hr
    have lt1 := (Array.getElem?_eq_some_iff.1 hl).1
    have lt0 := (Array.getElem?_eq_some_iff.1 hd).1
    refine ⟨hI i j W W' row hi hgr (fun r e => by have := hr r e; omega), (hgr.block _ lt1 (fun e => ?_)).trans hl, (hgr.block _ lt0 (fun e => ?_)).trans hd⟩
    · have := hr _ e.symm; omega
    · have := hr _ e.symm; omega
  · rintro i j W hi hj hne hsz ⟨hin, hl, hd⟩
    have hlt : w.heap.size + 1 < W.heap.size := (Array.getElem?_eq_some_iff.1 hl).1
    have hy := run_yield (P := Try.prog) (args := #[.int .i64 (nxtD la lb i j), .agg #[.bool (odd (nxtI la lb i j)), .bool (odd (nxtJ la lb i j))]]) hl rfl
    refine ⟨fn, _, assign, body, hy, roundIn_of_wpIn hfn ?_⟩
    have ez : (base.params.zip #[Value.int .i64 (nxtD la lb i j), .agg #[.bool (odd (nxtI la lb i j)), .bool (odd (nxtJ la lb i j))]]).foldl (fun t (y, v) => t.setIfInBounds y v) base.tmps = (a.tmps.setIfInBounds p (.int .i64 (nxtD la lb i j))).setIfInBounds q (.agg #[.bool (odd (nxtI la lb i j)), .bool (odd (nxtJ la lb i j))]) := by
      simp [base]
    rw [ez]
    refine hassign _ _ _ _ W _ ?_
    generalize hW1 : W.alloc (.cells #[.bool (odd (nxtI la lb i j)), .bool (odd (nxtJ la lb i j))] 59) = W1
    have w1b : Below W.heap.size W W1 := by subst hW1; exact (Below.refl _ W).alloc (Nat.le_refl _) _
    have w1l : W1.heap[w.heap.size + 1]? = some (.loop base) := (w1b.block _ hlt).trans hl
    have w1d : W1.heap[w.heap.size]? = some (.deferred (some [])) := (w1b.block _ (by omega)).trans hd
    have w1i : I i j W1 := hI i j W W1 none hin (only_of_below w1b none) (fun r e => by cases e)
    have w1x : Blk W1 W.heap.size 59 #[.bool (odd (nxtI la lb i j)), .bool (odd (nxtJ la lb i j))] := by subst hW1; exact Blk.new W _ _
    refine ⟨_, run_beginRound w1l rfl, ?_⟩
    generalize hU : W1.putObj (w.heap.size + 1) (.loop { base with state := .busy }) = U
    have ug : W1.grownBy U (some (w.heap.size + 1)) := by subst hU; exact grownBy_putObj' W1 _ _
    have ul : U.heap[w.heap.size + 1]? = some (.loop { base with state := .busy }) := by subst hU; exact World.putObj_heap_same (Array.getElem?_eq_some_iff.1 w1l).1
    have ud : U.heap[w.heap.size]? = some (.deferred (some [])) := by subst hU; exact (World.putObj_heap_other (by omega)).trans w1d
    have ui : I i j U := hI i j W1 U _ w1i ug (fun r e => by cases e; omega)
    have ux := w1x.grown ug (by intro e; have := Option.some.inj e; omega)
    have ur : ∀ r, w.heap.size + 2 ≤ r → r < w.heap.size + 2 + 2 → U.heap[r]? = W.heap[r]? := fun r h1 h2 => by
      rw [ug.block r (Nat.lt_of_lt_of_le (by omega) w1b.size) (by intro e; have := Option.some.inj e; omega)]
      exact w1b.block r (by omega)
    refine wpIn_mono (hbody _ i j U W.heap.size hi hj hne (by omega) ui ux) ?_
    intro e a3 W3 hp
    have us : W.heap.size ≤ U.heap.size := Nat.le_trans w1b.size ug.size
    cases e with
    | normal =>
      obtain ⟨⟨hs3, hk3⟩, hi3⟩ := hp
      have l3 := (hk3 _ (by omega) (by omega)).trans ul
      have d3 := (hk3 _ (Nat.le_refl _) (by omega)).trans ud
      have l3lt := (Array.getElem?_eq_some_iff.1 l3).1
      refine ⟨_, _, run_endRound none l3, .inl ⟨rfl, ⟨hI _ _ W3 _ _ hi3 (grownBy_putObj' W3 _ _) (fun r e => by cases e; omega), World.putObj_heap_same l3lt, (World.putObj_heap_other (by omega)).trans d3⟩, ?_, fun r h1 h2 => ?_⟩⟩
      · have := (grownBy_putObj' W3 (w.heap.size + 1) (.loop { base with state := .ready, pending := none })).size
        exact Nat.le_trans (Nat.le_trans hsz (Nat.le_trans us hs3)) this
      · exact (World.putObj_heap_other (by omega)).trans ((hk3 r (by omega) (by omega)).trans (ur r h1 h2))
    | ret =>
      obtain ⟨⟨hs3, hk3⟩, hi3⟩ := hp
      have l3 := (hk3 _ (by omega) (by omega)).trans ul
      have d3 := (hk3 _ (Nat.le_refl _) (by omega)).trans ud
      have l3lt := (Array.getElem?_eq_some_iff.1 l3).1
      exact ⟨_, _, run_endRound (some .ret) l3, .inr ⟨rfl, hIx W3 _ _ hi3 (grownBy_putObj' W3 _ _) (fun r e => by cases e; omega), World.putObj_heap_same l3lt, (World.putObj_heap_other (by omega)).trans d3⟩⟩
    | exit id => exact hp.elim
    | goto t => exact hp.elim
    | panic ch => exact hp.elim
    | outgrown => exact hp.elim
  · rintro e W2 ⟨⟨v, rfl⟩, (⟨hi, hl, hd⟩ | ⟨hi, hl, hd⟩)⟩
    · exact ⟨none, _, run_endLoop hl (by simp [base]), hdone _ _ (Nat.le_refl _) (by omega) (hI _ _ W2 _ _ hi (grownBy_putObj' W2 _ _) (fun r e => by cases e; omega)) ((World.putObj_heap_other (by omega)).trans hd)⟩
    · exact ⟨some .ret, _, run_endLoop hl (by simp), hstop _ _ (Nat.le_refl _) (by omega) (hIx W2 _ _ hi (grownBy_putObj' W2 _ _) (fun r e => by cases e; omega)) ((World.putObj_heap_other (by omega)).trans hd)⟩
end Go.Proofs.Ytpafnakepgjmnaa
