/- The laws of sets of days. -/
import Derived.Test.YtpafnakepgjmnaaSp7
import Derived.Test.YtpafnakepgjmnaaVe0
namespace Go.Proofs.Ytpafnakepgjmnaa
open Go.RowKit Go.Lib

section
variable {a b c : List Sp}
theorem or_comm_L : combL orB b a = combL orB a b := norm_congr fun _ _ _ => Bool.or_comm _ _
theorem and_comm_L : combL andB b a = combL andB a b := norm_congr fun _ _ _ => Bool.and_comm _ _
theorem or_assoc_L (ha : IsSet a) (hb : IsSet b) (hc : IsSet c) : combL orB a (combL orB b c) = combL orB (combL orB a b) c := norm_congr fun x _ _ => by
  rw [comb_mem rfl hb hc, comb_mem rfl ha hb]; exact (Bool.or_assoc _ _ _).symm
theorem and_assoc_L (ha : IsSet a) (hb : IsSet b) (hc : IsSet c) : combL andB a (combL andB b c) = combL andB (combL andB a b) c := norm_congr fun x _ _ => by
  rw [comb_mem rfl hb hc, comb_mem rfl ha hb]; exact (Bool.and_assoc _ _ _).symm
theorem and_or_L (ha : IsSet a) (hb : IsSet b) (hc : IsSet c) : combL orB (combL andB a b) (combL andB a c) = combL andB a (combL orB b c) := norm_congr fun x _ _ => by
  rw [comb_mem rfl hb hc, comb_mem rfl ha hb, comb_mem rfl ha hc]; cases memB a x <;> cases memB b x <;> cases memB c x <;> rfl
theorem or_and_L (ha : IsSet a) (hb : IsSet b) (hc : IsSet c) : combL andB (combL orB a b) (combL orB a c) = combL orB a (combL andB b c) := norm_congr fun x _ _ => by
  rw [comb_mem rfl hb hc, comb_mem rfl ha hb, comb_mem rfl ha hc]; cases memB a x <;> cases memB b x <;> cases memB c x <;> rfl
theorem but_and_L (ha : IsSet a) (hb : IsSet b) : combL butB a (combL andB a b) = combL butB a b := norm_congr fun x _ _ => by
  rw [comb_mem rfl ha hb]; cases memB a x <;> cases memB b x <;> rfl
end

/-- The last so many spans of a list are in another one. -/
def Cov (R l : List Sp) (i : Nat) : Prop := ∀ k, k < l.length → l.length - 1 - k < i → (fr l k, tt l k) ∈ R
theorem Cov.zero (R l : List Sp) : Cov R l 0 := fun k _ h => absurd h (by omega)
theorem Cov.more {R l : List Sp} {i : Nat} (h : Cov R l i) (s : Sp) : Cov (R ++ [s]) l i := fun k h1 h2 => List.mem_append_left _ (h k h1 h2)
theorem Cov.next {R l : List Sp} {i : Nat} (h : Cov R l i) (hi : i < l.length) : Cov (R ++ [(fr l (l.length - 1 - i), tt l (l.length - 1 - i))]) l (i + 1) := fun k h1 h2 => by
  by_cases g : l.length - 1 - k < i
  · exact List.mem_append_left _ (h k h1 g)
  · obtain rfl : k = l.length - 1 - i := by omega
    simp
theorem Cov.past {R l : List Sp} {i : Nat} (h : Cov R l i) (hi : l.length ≤ i) : Cov R l (i + 1) := fun k h1 _ => h k h1 (by omega)

/-- What making a set of all spans of two sets gives. -/
theorem made_L {R a b : List Sp} {i : Nat} (hR : ∀ s ∈ R, s ∈ a ∨ s ∈ b) (ha : Cov R a i) (hb : Cov R b i) (h1 : a.length ≤ i) (h2 : b.length ≤ i) (sa : IsSet a) (sb : IsSet b) :
    norm (memB R) = combL orB a b ∧ Vd R := by
  refine ⟨norm_congr fun x _ _ => ?_, fun s hs => ?_⟩
  · have e : ∀ p q : Bool, (p = true ↔ q = true) → p = q := by intro p q; cases p <;> cases q <;> simp
    refine e _ _ ?_
    show _ ↔ (memB a x || memB b x) = true
    rw [Bool.or_eq_true]
    constructor
    · intro h
      obtain ⟨s, hs, h3⟩ := memB_true.1 h
      rcases hR s hs with g | g
      · exact .inl (memB_true.2 ⟨s, g, h3⟩)
      · exact .inr (memB_true.2 ⟨s, g, h3⟩)
    · rintro (h | h)
      · obtain ⟨k, hk, h3⟩ := memB_at.1 h
        exact memB_true.2 ⟨_, ha k hk (by omega), h3⟩
      · obtain ⟨k, hk, h3⟩ := memB_at.1 h
        exact memB_true.2 ⟨_, hb k hk (by omega), h3⟩
  · rcases hR s hs with g | g
    · exact sa.vd s g
    · exact sb.vd s g

theorem Blk.set_same {w : World} {g : Nat} {t : TypeId} {u : Value} (h : Blk w g t #[u]) : w.setCell ⟨g, 0, none⟩ u = w := by
  have e : (w.setCell ⟨g, 0, none⟩ u).heap = w.heap := Array.ext_getElem? fun i => by
    by_cases hg : i = g
    · subst hg
      exact Eq.trans (h.set_ 0 u) h.symm
    · exact Below.heap_setCell w ⟨g, 0, none⟩ u i hg
  have e2 : w.setCell ⟨g, 0, none⟩ u = { w with heap := (w.setCell ⟨g, 0, none⟩ u).heap } := rfl
  rw [e2, e]
end Go.Proofs.Ytpafnakepgjmnaa
