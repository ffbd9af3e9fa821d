/- What filling the small gaps does to a set. -/
import Derived.Test.YtpafnakepgjmnaaSp6
namespace Go.Proofs.Ytpafnakepgjmnaa
open Go.RowKit

theorem merge_id {d : Int} {l : List Sp} (h : ∀ i, 0 < i → i < l.length → d < fr l i - tt l (i - 1)) : mergeL d l = l := by
  have H : ∀ k, k ≤ l.length → mergeL d (l.take k) = l.take k := by
    intro k
    induction k with
    | zero => intro _; rfl
    | succ k ih =>
      intro hk
      rw [mergeL_take (by omega), ih (by omega), take_succ_sp (by omega)]
      refine mstep_new ?_
      have hl : (l.take k).length = k := by rw [List.length_take]; omega
      by_cases g : k = 0
      · exact .inl (by omega)
      · refine .inr ?_
        have e : tt (l.take k) (k - 1) = tt l (k - 1) := by
          have := tt_left (a := l.take k) (b := l.drop k) (i := k - 1) (by omega)
          rw [List.take_append_drop] at this
          exact this.symm
        rw [hl, e]
        exact h k (by omega) (by omega)
  have := H l.length (Nat.le_refl _)
  rwa [List.take_length] at this

theorem mem_at {l : List Sp} {j : Nat} (h : j < l.length) : (fr l j, tt l j) ∈ l := by
  have e : (fr l j, tt l j) = l[j] := by
    unfold fr tt
    rw [List.getD_eq_getElem?_getD, List.getElem?_eq_getElem h]
    rfl
  rw [e]; exact List.getElem_mem h

theorem gaps_all {a : List Sp} (h : IsSet a) {d : Int} (hd : 0 ≤ d) :
    IsSet (mergeL d a) ∧ mergeL d (mergeL d a) = mergeL d a ∧ combL butB (mergeL d a) a = gapsL d a ∧ withinB a (mergeL d a) = true ∧
    (∀ i, 0 < i → i < (mergeL d a).length → d < fr (mergeL d a) i - tt (mergeL d a) (i - 1)) ∧
    (∀ j, j < (gapsL d a).length → tt (gapsL d a) j - fr (gapsL d a) j ≤ d ∧ memB a (fr (gapsL d a) j - 1) = true ∧ memB a (tt (gapsL d a) j) = true) ∧
    (a.length = 0 ∧ (mergeL d a).length = 0 ∨ 0 < a.length ∧ 0 < (mergeL d a).length ∧ fr (mergeL d a) 0 = fr a 0 ∧ tt (mergeL d a) ((mergeL d a).length - 1) = tt a (a.length - 1)) := by
  obtain ⟨m1, m2, m3, m4⟩ := merge_set h hd
  refine ⟨m1, merge_id m3, ?_, ?_, m3, ?_, ?_⟩
  · refine (norm_eq (gapsL_isSet h d) fun x _ _ => ?_).symm
    show _ = (memB (mergeL d a) x && !memB a x)
    rw [m2]
    cases ha : memB a x with
    | false => simp
    | true =>
      cases hg : memB (gapsL d a) x with
      | false => rfl
      | true =>
        obtain ⟨u, hu, h1, h2⟩ := memB_true.1 hg
        have := (gapsL_mem h hu).2.2.2 x h1 h2
        rw [ha] at this
        cases this
  · refine (withinB_true h).2 fun x hx => ?_
    rw [m2, hx]; rfl
  · intro j hj
    have := gapsL_mem h (mem_at hj)
    exact ⟨this.1, this.2.1, this.2.2.1⟩
  · rcases m4 with ⟨rfl, h0⟩ | ⟨hl, S, f, hS, hf⟩
    · exact .inl ⟨rfl, by rw [h0]; rfl⟩
    · refine .inr ⟨hl, by rw [hS]; simp, hf, ?_⟩
      rw [hS, List.length_append]
      exact tt_last rfl
end Go.Proofs.Ytpafnakepgjmnaa
