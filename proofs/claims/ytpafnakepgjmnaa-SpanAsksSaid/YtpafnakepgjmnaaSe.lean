/- The span of a day; the days ahead of a day. -/
import Derived.Test.YtpafnakepgjmnaaShelf
import Derived.Test.YtpafnakepgjmnaaSd
namespace Go.Proofs.Ytpafnakepgjmnaa
open Go.RowKit Go.Lib Go.Shelf

theorem below_grow (w : World) (m : Nat) (os : Array Obj) : Below w.heap.size w (Sort.grow (w.drewN m) os) :=
  ⟨rfl, rfl, rfl, by simp [Sort.grow], fun k hk => by
    show (w.heap ++ os)[k]? = _
    rw [Array.getElem?_append_left hk]⟩

/-- How many spans end at day d or ahead of it. -/
def findK (l : List Sp) (d : Int) : Nat := (List.range l.length).countP (fun i => !decide (d < tt l i))
theorem countP_step (p : Nat → Bool) (n : Nat) (h : ∀ a b, a ≤ b → b < n → p a = true → p b = true) :
    (List.range n).countP (fun i => !p i) ≤ n ∧ (∀ i, i < (List.range n).countP (fun i => !p i) → p i = false) ∧ (∀ i, (List.range n).countP (fun i => !p i) ≤ i → i < n → p i = true) := by
  induction n with
  | zero => simp
  | succ n ih =>
    obtain ⟨h1, h2, h3⟩ := ih (fun a b hab hb => h a b hab (by omega))
    rw [List.range_succ, List.countP_append]
    cases hp : p n with
    | true =>
      simp only [List.countP_cons, List.countP_nil, hp, Bool.not_true, Bool.false_eq_true, if_false, Nat.add_zero]
      refine ⟨by omega, h2, fun i hi hn => ?_⟩
      by_cases g : i = n
      · subst g; exact hp
      · exact h3 i hi (by omega)
    | false =>
      have hall : (List.range n).countP (fun i => !p i) = n := by
        rcases Nat.lt_or_ge ((List.range n).countP (fun i => !p i)) n with g | g
        · have := h _ n (Nat.le_of_lt g) (by omega) (h3 _ (Nat.le_refl _) g)
          rw [hp] at this; cases this
        · omega
      rw [hall] at h2 ⊢
      simp only [List.countP_cons, List.countP_nil, hp, Bool.not_false, if_true, Nat.zero_add]
      refine ⟨by omega, fun i hi => ?_, fun i hi hn => by omega⟩
      by_cases g : i = n
      · subst g; exact hp
      · exact h2 i (by omega)
theorem IsSet.tt_mono {l : List Sp} (h : IsSet l) {a b : Nat} (hab : a ≤ b) (hb : b < l.length) : tt l a ≤ tt l b := by
  induction b with
  | zero => obtain rfl : a = 0 := by omega
            exact Int.le_refl _
  | succ b ih =>
    by_cases g : a = b + 1
    · subst g; exact Int.le_refl _
    · have := ih (by omega) (by omega)
      have h2 := h.at_ hb
      have := h2.2.2.2 (by omega)
      rw [Nat.add_sub_cancel] at this
      omega
theorem findK_of {l : List Sp} (h : IsSet l) (d : Int) : findK l d ≤ l.length ∧ (∀ i, i < findK l d → tt l i ≤ d) ∧ (findK l d < l.length → d < tt l (findK l d)) := by
  have := countP_step (fun i => decide (d < tt l i)) l.length (fun a b hab hb ha => decide_eq_true (by have := h.tt_mono hab hb; have := of_decide_eq_true ha; omega))
  refine ⟨this.1, fun i hi => by have := of_decide_eq_false (this.2.1 i hi); omega, fun hi => of_decide_eq_true (this.2.2 _ (Nat.le_refl _) hi)⟩

set_option maxRecDepth 100000 in
set_option maxHeartbeats 2000000 in
theorem findc_any (l : List Sp) (A : Option Addr) (n c B1 B2 : Nat) (d : Int) (i : Nat) (W : World) (hn : Hid (l.length = n)) (hm : n ≤ 4611686018427387904) (hi : i < n) (hA : SpH W A l) (h1 : W.cell? ⟨B1, 0, none⟩ = some (.slice A n c)) (h2 : W.cell? ⟨B2, 0, none⟩ = some (.int .i64 d)) :
    Calls Try.prog 59 #[.int .i64 i, .pointer (some ⟨B1, 0, none⟩), .pointer (some ⟨B2, 0, none⟩)] W fun e w' => e = .returned (.bool (decide (d < tt l i))) ∧ ∃ q os', w' = Sort.grow (W.drewN q) os' := by
  obtain ⟨b, off, rfl, hbl, hc⟩ := hA.at_ hn.out (by omega)
  have c1 := (hc i hi).2
  generalize tt l i = y at *
  clear hc hA
  go_enter Try.func59, Try.ntmps59
  go_wp2
  go_quiet (fail)
  go_wp2
  go_ret
  exact ⟨rfl, nq, #[], by simp⟩

set_option maxRecDepth 100000 in
set_option maxHeartbeats 2000000 in
theorem find_any (l : List Sp) (A : Option Addr) (n c : Nat) (d : Int) (w : World) (hn : Hid (l.length = n)) (hs : Hid (IsSet l)) (hA : SpH w A l) :
    Calls Try.prog 48 #[.slice A n c, .int .i64 d] w fun e w' => e = .returned (.int .i64 (findK l d)) ∧ Below w.heap.size w w' := by
  have hm : n ≤ 65536 := by have := hs.out.len_bd; rw [hn.out] at this; exact this
  have eg : ∀ args w, (callFunc 59 args).run Try.prog w = .ok (.enter 59 args) w := enters_of Try.func59 (by kernel_rfl) rfl
  have hcon := Any.sort_Search Try.search 59 #[.pointer (some ⟨w.heap.size, 0, none⟩), .pointer (some ⟨w.heap.size + 1, 0, none⟩)] n (fun i => decide (d < tt l i)) ((w.alloc (.cells #[.slice A n c] 22)).alloc (.cells #[.int .i64 d] 3)) eg (by omega)
    (fun m os i hi => by
      have b0 : Below w.heap.size w ((w.alloc (.cells #[.slice A n c] 22)).alloc (.cells #[.int .i64 d] 3)) := (by repeat (first | exact Below.refl _ _ | assumption | refine Below.alloc ?_ (by first | (simp; done) | (simp; omega) | omega) _ | refine Below.setCell ?_ (by first | (simp; done) | (simp; omega) | omega) _ | refine Below.drew ?_))
      have b1 := below_grow ((w.alloc (.cells #[.slice A n c] 22)).alloc (.cells #[.int .i64 d] 3)) m os
      have k1 := ((Blk.new w 22 #[.slice A n c]).alloc (.cells #[.int .i64 d] 3)).below b1 (by simp; omega)
      have k2 := (Blk.new (w.alloc (.cells #[.slice A n c] 22)) 3 #[.int .i64 d]).below b1 (by simp)
      rw [World.size_alloc] at k2
      exact findc_any l A n c w.heap.size (w.heap.size + 1) d i _ hn (by omega) hi ((hA.below b0).below b1) ((k1.cell 0).trans rfl) ((k2.cell 0).trans rfl))
    (fun a b hab hb ha => decide_eq_true (by have := hs.out.tt_mono hab (by rw [hn.out]; exact hb); have := of_decide_eq_true ha; omega))
  change Calls Try.prog 58 _ _ _ at hcon
  have hk : (List.range n).countP (fun i => !decide (d < tt l i)) = findK l d := by unfold findK; rw [hn.out]
  rw [hk] at hcon
  have HC := hid hcon
  generalize findK l d = r at *
  clear hcon hk hA
  go_enter Try.func48, Try.ntmps48
  go_wp2_with fail
  refine HC.out.mono ?_
  rintro e w1 ⟨rfl, q, os, rfl⟩
  have hb1 : Below w.heap.size w (Sort.grow (((w.alloc (.cells #[.slice A n c] 22)).alloc (.cells #[.int .i64 d] 3)).drewN q) os) := below_new (below_new (below_grow ((w.alloc (.cells #[.slice A n c] 22)).alloc (.cells #[.int .i64 d] 3)) q os))
  generalize Sort.grow (((w.alloc (.cells #[.slice A n c] 22)).alloc (.cells #[.int .i64 d] 3)).drewN q) os = w2 at *
  go_wp2
  go_ret
  exact ⟨rfl, hb1⟩
end Go.Proofs.Ytpafnakepgjmnaa
