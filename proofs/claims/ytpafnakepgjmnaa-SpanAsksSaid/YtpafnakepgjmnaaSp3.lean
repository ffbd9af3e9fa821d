/- Neighbouring spans merged. Plain mathematics. -/
import Derived.Test.YtpafnakepgjmnaaSp2
namespace Go.Proofs.Ytpafnakepgjmnaa

def mstep (d : Int) (acc : List Sp) (s : Sp) : List Sp := if acc.length = 0 ∨ d < s.1 - tt acc (acc.length - 1) then acc ++ [s] else ext acc (max (tt acc (acc.length - 1)) s.2)
def mergeL (d : Int) (l : List Sp) : List Sp := l.foldl (mstep d) []

theorem mergeL_nil (d : Int) : mergeL d [] = [] := rfl
theorem mergeL_snoc (d : Int) (l : List Sp) (s : Sp) : mergeL d (l ++ [s]) = mstep d (mergeL d l) s := by unfold mergeL; rw [List.foldl_append]; rfl
theorem mergeL_take {d : Int} {l : List Sp} {k : Nat} (h : k < l.length) : mergeL d (l.take (k + 1)) = mstep d (mergeL d (l.take k)) (fr l k, tt l k) := by
  rw [take_succ_sp h, mergeL_snoc]
theorem mstep_new {d : Int} {acc : List Sp} {s : Sp} (h : acc.length = 0 ∨ d < s.1 - tt acc (acc.length - 1)) : mstep d acc s = acc ++ [s] := if_pos h
theorem mstep_ext {d : Int} {acc : List Sp} {s : Sp} {q : Nat} (hq : acc.length = q + 1) (h : ¬ d < s.1 - tt acc q) : mstep d acc s = ext acc (max (tt acc q) s.2) := by
  unfold mstep; rw [if_neg (by rw [hq]; simp; omega), hq]; rfl
theorem ext_len {l : List Sp} {q : Nat} (h : l.length = q + 1) (e : Int) : (ext l e).length = q + 1 := by unfold ext; simp; omega
theorem mergeL_len (d : Int) (l : List Sp) : (mergeL d l).length ≤ l.length := by
  suffices H : ∀ k, k ≤ l.length → (mergeL d (l.take k)).length ≤ k by
    have := H l.length (Nat.le_refl _)
    rwa [List.take_length] at this
  intro k
  induction k with
  | zero => intro _; simp [mergeL]
  | succ k ih =>
    intro hk
    have := ih (by omega)
    rw [mergeL_take hk]
    unfold mstep
    split
    · simp; omega
    · rename_i hn
      obtain ⟨q, hq⟩ : ∃ q, (mergeL d (l.take k)).length = q + 1 := ⟨(mergeL d (l.take k)).length - 1, by omega⟩
      rw [ext_len hq]; omega

/-- All spans are valid. -/
def Vd (l : List Sp) : Prop := ∀ s ∈ l, 0 ≤ s.1 ∧ s.1 ≤ s.2 ∧ s.2 ≤ 65536
theorem Vd.at_ {l : List Sp} (h : Vd l) {i : Nat} (hi : i < l.length) : 0 ≤ fr l i ∧ fr l i ≤ tt l i ∧ tt l i ≤ 65536 := by
  have := h _ (List.getElem_mem hi)
  unfold fr tt
  rw [List.getD_eq_getElem?_getD, List.getElem?_eq_getElem hi]
  exact this
theorem snoc_of {l : List Sp} {q : Nat} (h : l.length = q + 1) : ∃ S, l = S ++ [(fr l q, tt l q)] ∧ S.length = q := by
  refine ⟨l.take q, ?_, by simp; omega⟩
  have := take_succ_sp (l := l) (k := q) (by omega)
  rwa [List.take_of_length_le (by omega)] at this
theorem Vd.mstep {d : Int} {acc : List Sp} {s : Sp} (h : Vd acc) (hs : 0 ≤ s.1 ∧ s.1 ≤ s.2 ∧ s.2 ≤ 65536) : Vd (mstep d acc s) := by
  unfold Go.Proofs.Ytpafnakepgjmnaa.mstep
  split
  · intro r hr
    rcases List.mem_append.1 hr with hr | hr
    · exact h r hr
    · obtain rfl := List.mem_singleton.1 hr; exact hs
  · rename_i hn
    obtain ⟨q, hq⟩ : ∃ q, acc.length = q + 1 := ⟨acc.length - 1, by omega⟩
    rw [hq, Nat.add_sub_cancel]
    have hl := h.at_ (i := q) (by omega)
    obtain ⟨S, hS, hSl⟩ := snoc_of hq
    intro r hr
    have e : ext acc (max (tt acc q) s.2) = S ++ [(fr acc q, max (tt acc q) s.2)] := by
      conv => lhs; rw [hS]
      rw [ext_snoc]; congr 3; rw [← hS]
    rw [e] at hr
    rcases List.mem_append.1 hr with hr | hr
    · exact h r (by rw [hS]; exact List.mem_append_left _ hr)
    · obtain rfl := List.mem_singleton.1 hr; simp only; omega
theorem Vd.merge {l : List Sp} (h : Vd l) (d : Int) : Vd (mergeL d l) := by
  suffices H : ∀ (l acc : List Sp), Vd acc → Vd l → Vd (l.foldl (Go.Proofs.Ytpafnakepgjmnaa.mstep d) acc) from H l [] (fun s hs => by cases hs) h
  intro l
  induction l with
  | nil => intro acc ha _; exact ha
  | cons s l ih => intro acc ha hl; exact ih _ (ha.mstep (hl s (by simp))) (fun r hr => hl r (List.mem_cons_of_mem _ hr))
theorem Vd.take {l : List Sp} (h : Vd l) (k : Nat) : Vd (l.take k) := fun s hs => h s (List.mem_of_mem_take hs)
theorem IsSet.vd {l : List Sp} (h : IsSet l) : Vd l := fun s hs => by have := SetFrom.all h s hs; omega
end Go.Proofs.Ytpafnakepgjmnaa
