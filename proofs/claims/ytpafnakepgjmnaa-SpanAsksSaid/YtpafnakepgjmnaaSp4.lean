/- Merging: sorted spans; the gaps of a set. Plain mathematics. -/
import Derived.Test.YtpafnakepgjmnaaSp3
namespace Go.Proofs.Ytpafnakepgjmnaa

theorem fr_left {a b : List Sp} {i : Nat} (h : i < a.length) : fr (a ++ b) i = fr a i := by
  unfold fr; rw [List.getD_eq_getElem?_getD, List.getD_eq_getElem?_getD, List.getElem?_append_left h]
theorem tt_left {a b : List Sp} {i : Nat} (h : i < a.length) : tt (a ++ b) i = tt a i := by
  unfold tt; rw [List.getD_eq_getElem?_getD, List.getD_eq_getElem?_getD, List.getElem?_append_left h]
theorem fr_last {a : List Sp} {s : Sp} {i : Nat} (h : a.length = i) : fr (a ++ [s]) i = s.1 := by subst h; unfold fr; simp
theorem tt_last {a : List Sp} {s : Sp} {i : Nat} (h : a.length = i) : tt (a ++ [s]) i = s.2 := by subst h; unfold tt; simp
theorem memB_perm {a b : List Sp} (h : a.Perm b) (x : Int) : memB a x = memB b x := by
  rw [Bool.eq_iff_iff, memB_true, memB_true]
  constructor
  · rintro ⟨s, hs, h1⟩; exact ⟨s, h.mem_iff.1 hs, h1⟩
  · rintro ⟨s, hs, h1⟩; exact ⟨s, h.mem_iff.2 hs, h1⟩
theorem in_range {l : List Sp} (h : Vd l) {x : Int} (hm : memB l x = true) : 0 ≤ x ∧ x < 65536 := by
  obtain ⟨s, hs, h1, h2⟩ := memB_true.1 hm
  have := h s hs
  omega
theorem norm_of {l R : List Sp} (hv : Vd l) (hR : IsSet R) (h : ∀ x, memB R x = memB l x) : R = norm (memB l) :=
  Upto.norm ⟨hR, fun x => by
    rw [h x]
    cases hm : memB l x with
    | false => simp
    | true => have := in_range hv hm; simp [this]⟩
/-- A set is what it is for its days. -/
theorem norm_eq {R : List Sp} {p : Int → Bool} (hR : IsSet R) (h : ∀ x, 0 ≤ x → x < 65536 → memB R x = p x) : R = norm p :=
  Upto.norm ⟨hR, fun x => by
    by_cases h0 : 0 ≤ x
    · by_cases h1 : x < 65536
      · rw [h x h0 h1, decide_eq_true h0, decide_eq_true h1]; simp
      · rw [decide_eq_false h1, hR.out (by omega)]; simp
    · rw [decide_eq_false h0, hR.out (by omega)]; simp⟩

theorem ext_span {f t x y d : Int} (h1 : f ≤ x) (h2 : x ≤ t) : (decide (f ≤ d) && decide (d < max t y)) = ((decide (f ≤ d) && decide (d < t)) || (decide (x ≤ d) && decide (d < y))) := by
  rw [Bool.eq_iff_iff]; simp; omega

theorem merge_sorted {s : List Sp} (hv : ∀ r ∈ s, 0 ≤ r.1 ∧ r.1 < r.2 ∧ r.2 ≤ 65536) (hs : ∀ i j, i < j → j < s.length → fr s i ≤ fr s j) : mergeL 0 s = norm (memB s) := by
  have hat : ∀ i, i < s.length → 0 ≤ fr s i ∧ fr s i < tt s i ∧ tt s i ≤ 65536 := fun i hi => by
    have := hv _ (List.getElem_mem hi)
    unfold fr tt
    rw [List.getD_eq_getElem?_getD, List.getElem?_eq_getElem hi]
    exact this
  have H : ∀ k, k ≤ s.length → IsSet (mergeL 0 (s.take k)) ∧ (∀ x, memB (mergeL 0 (s.take k)) x = memB (s.take k) x) ∧
      (k = 0 ∧ mergeL 0 (s.take k) = [] ∨ 0 < k ∧ ∃ S f t, mergeL 0 (s.take k) = S ++ [(f, t)] ∧ f ≤ fr s (k - 1)) := by
    intro k
    induction k with
    | zero => intro _; exact ⟨isSet_nil, fun _ => rfl, .inl ⟨rfl, rfl⟩⟩
    | succ k ih =>
      intro hk
      obtain ⟨i1, i2, i3⟩ := ih (by omega)
      have ha := hat k (by omega)
      rw [mergeL_take (by omega)]
      have hm : ∀ x, memB (s.take (k + 1)) x = (memB (s.take k) x || (decide (fr s k ≤ x) && decide (x < tt s k))) := fun x => by
        rw [take_succ_sp (by omega), memB_append, memB_cons, memB_nil, Bool.or_false]
      rcases i3 with ⟨rfl, h0⟩ | ⟨hk0, S, f, t, hS, hf⟩
      · rw [h0, mstep_new (.inl rfl)]
        refine ⟨⟨ha.1, ha.2.1, ha.2.2, trivial⟩, fun x => ?_, .inr ⟨by omega, [], fr s 0, tt s 0, rfl, Int.le_refl _⟩⟩
        rw [hm]
        simp [memB]
      · rw [hS] at i1 i2 ⊢
        obtain ⟨g1, g2, g3, g4, g5⟩ := SetFrom.snoc.1 i1
        simp only at g3 g4 g5
        have hff : f ≤ fr s k := by have := hs (k - 1) k (by omega) (by omega); omega
        have hl : (S ++ [(f, t)]).length = S.length + 1 := by simp
        have htt : tt (S ++ [(f, t)]) S.length = t := by unfold tt; simp
        by_cases hc : 0 < fr s k - t
        · rw [mstep_new (.inr (by rw [hl, Nat.add_sub_cancel, htt]; exact hc))]
          refine ⟨SetFrom.snoc.2 ⟨i1, fun r hr => ?_, ha.1, ha.2.1, ha.2.2⟩, fun x => ?_, .inr ⟨by omega, _, fr s k, tt s k, rfl, by rw [Nat.add_sub_cancel]; exact Int.le_refl _⟩⟩
          · rcases List.mem_append.1 hr with hr | hr
            · have := g2 r hr; simp only at this ⊢; omega
            · obtain rfl := List.mem_singleton.1 hr; simp only; omega
          · rw [memB_append, i2, hm, memB_cons, memB_nil, Bool.or_false]
        · rw [mstep_ext hl (by rw [htt]; exact hc), ext_snoc, htt]
          refine ⟨SetFrom.snoc.2 ⟨g1, g2, g3, by simp only; omega, by simp only; omega⟩, fun x => ?_, .inr ⟨by omega, S, f, _, rfl, by rw [Nat.add_sub_cancel]; exact hff⟩⟩
          have := i2 x
          rw [memB_append, memB_cons, memB_nil, Bool.or_false] at this ⊢
          simp only at this ⊢
          rw [hm, ext_span hff (by omega), ← this, Bool.or_assoc]
  have := H s.length (Nat.le_refl _)
  rw [List.take_length] at this
  exact norm_of (fun r hr => by have := hv r hr; omega) this.1 this.2.1

/-- The gaps of at most d days. -/
def gapsL (d : Int) : List Sp → List Sp
  | s :: t :: l => (if t.1 - s.2 ≤ d then [(s.2, t.1)] else []) ++ gapsL d (t :: l)
  | _ => []
theorem gapsL_two (d : Int) (s t : Sp) (l : List Sp) : gapsL d (s :: t :: l) = (if t.1 - s.2 ≤ d then [(s.2, t.1)] else []) ++ gapsL d (t :: l) := rfl
theorem gapsL_one (d : Int) (s : Sp) : gapsL d [s] = [] := rfl
theorem gapsL_snoc (d : Int) (l : List Sp) (s t : Sp) : gapsL d (l ++ [s] ++ [t]) = gapsL d (l ++ [s]) ++ (if t.1 - s.2 ≤ d then [(s.2, t.1)] else []) := by
  induction l with
  | nil => show gapsL d [s, t] = gapsL d [s] ++ _; rw [gapsL_two, gapsL_one, gapsL_one]; simp
  | cons r l ih =>
    cases l with
    | nil => show gapsL d [r, s, t] = gapsL d [r, s] ++ _; rw [gapsL_two, gapsL_two d r s [], gapsL_one, gapsL_two, gapsL_one]; simp
    | cons u l =>
      show gapsL d (r :: u :: (l ++ [s] ++ [t])) = gapsL d (r :: u :: (l ++ [s])) ++ _
      have ih' : gapsL d (u :: (l ++ [s] ++ [t])) = gapsL d (u :: (l ++ [s])) ++ _ := ih
      rw [gapsL_two, gapsL_two, ih', List.append_assoc]
theorem gapsL_set {lo d : Int} {s : Sp} {l : List Sp} (h : SetFrom lo (s :: l)) : SetFrom s.2 (gapsL d (s :: l)) := by
  induction l generalizing lo s with
  | nil => trivial
  | cons t l ih =>
    obtain ⟨a1, a2, a3, a4⟩ := h
    have ih' := ih a4
    obtain ⟨b1, b2, b3, b4⟩ := a4
    rw [gapsL_two]
    by_cases g : t.1 - s.2 ≤ d
    · rw [if_pos g]
      exact ⟨Int.le_refl _, by simp only; omega, by simp only; omega, ih'.mono (by simp only; omega)⟩
    · rw [if_neg g]
      exact ih'.mono (by omega)
theorem gapsL_isSet {l : List Sp} (h : IsSet l) (d : Int) : IsSet (gapsL d l) := by
  cases l with
  | nil => trivial
  | cons s l => exact (gapsL_set h).mono (by have := h.1; have := h.2.1; omega)
theorem gapsL_mem {lo d : Int} {l : List Sp} (h : SetFrom lo l) {u : Sp} (hu : u ∈ gapsL d l) : u.2 - u.1 ≤ d ∧ memB l (u.1 - 1) = true ∧ memB l u.2 = true ∧ ∀ x, u.1 ≤ x → x < u.2 → memB l x = false := by
  induction l generalizing lo with
  | nil => cases hu
  | cons s l ih =>
    cases l with
    | nil => cases hu
    | cons t l =>
      obtain ⟨a1, a2, a3, a4⟩ := h
      rw [gapsL_two] at hu
      rcases List.mem_append.1 hu with hu | hu
      · by_cases g : t.1 - s.2 ≤ d
        · rw [if_pos g] at hu
          obtain rfl := List.mem_singleton.1 hu
          obtain ⟨b1, b2, b3, b4⟩ := a4
          refine ⟨g, ?_, ?_, fun x h1 h2 => ?_⟩
          · rw [memB_cons, decide_eq_true (show s.1 ≤ s.2 - 1 by omega), decide_eq_true (show s.2 - 1 < s.2 by omega)]; rfl
          · rw [memB_cons, memB_cons, decide_eq_true (Int.le_refl t.1), decide_eq_true b2]; simp
          · simp only at h1 h2
            rw [memB_cons, memB_cons, decide_eq_false (show ¬ x < s.2 by omega), decide_eq_false (show ¬ t.1 ≤ x by omega), b4.out (by omega)]; simp
        · rw [if_neg g] at hu; cases hu
      · have hset := gapsL_set (d := d) a4
        have hr := SetFrom.all hset u hu
        obtain ⟨i1, i2, i3, i4⟩ := ih a4 hu
        have b2 := a4.2.1
        have b1 := a4.1
        refine ⟨i1, ?_, ?_, fun x h1 h2 => ?_⟩
        · rw [memB_cons, i2]; simp
        · rw [memB_cons, i3]; simp
        · rw [memB_cons, i4 x h1 h2, decide_eq_false (show ¬ x < s.2 by omega)]; simp

/-- What merging does to a set. -/
theorem merge_set {l : List Sp} (h : IsSet l) {d : Int} (_hd : 0 ≤ d) : IsSet (mergeL d l) ∧ (∀ x, memB (mergeL d l) x = (memB l x || memB (gapsL d l) x)) ∧ (∀ i, 0 < i → i < (mergeL d l).length → d < fr (mergeL d l) i - tt (mergeL d l) (i - 1)) ∧
    (l = [] ∧ mergeL d l = [] ∨ 0 < l.length ∧ ∃ S f, mergeL d l = S ++ [(f, tt l (l.length - 1))] ∧ fr (mergeL d l) 0 = fr l 0) := by
  have H : ∀ k, k ≤ l.length → IsSet (mergeL d (l.take k)) ∧ (∀ x, memB (mergeL d (l.take k)) x = (memB (l.take k) x || memB (gapsL d (l.take k)) x)) ∧ (∀ i, 0 < i → i < (mergeL d (l.take k)).length → d < fr (mergeL d (l.take k)) i - tt (mergeL d (l.take k)) (i - 1)) ∧
      (k = 0 ∧ mergeL d (l.take k) = [] ∨ 0 < k ∧ ∃ S f, mergeL d (l.take k) = S ++ [(f, tt l (k - 1))] ∧ fr (mergeL d (l.take k)) 0 = fr l 0) := by
    intro k
    induction k with
    | zero => intro _; exact ⟨isSet_nil, fun _ => rfl, fun i _ hi => by simp [mergeL] at hi, .inl ⟨rfl, rfl⟩⟩
    | succ k ih =>
      intro hk
      obtain ⟨i1, i2, i4, i3⟩ := ih (by omega)
      have ha := h.at_ (i := k) (by omega)
      rw [mergeL_take (by omega)]
      have hm : ∀ x, memB (l.take (k + 1)) x = (memB (l.take k) x || (decide (fr l k ≤ x) && decide (x < tt l k))) := fun x => by
        rw [take_succ_sp (by omega), memB_append, memB_cons, memB_nil, Bool.or_false]
      rcases i3 with ⟨rfl, h0⟩ | ⟨hk0, S, f, hS, hf0⟩
      · rw [h0, mstep_new (.inl rfl)]
        refine ⟨⟨ha.1, ha.2.1, ha.2.2.1, trivial⟩, fun x => ?_, fun i h1 h2 => by simp at h2; omega, .inr ⟨by omega, [], fr l 0, rfl, rfl⟩⟩
        rw [hm, take_succ_sp (by omega)]
        simp [memB, gapsL]
      · obtain ⟨m, rfl⟩ : ∃ m, k = m + 1 := ⟨k - 1, by omega⟩
        rw [Nat.add_sub_cancel] at hS
        obtain ⟨t, ht⟩ : ∃ t, tt l m = t := ⟨_, rfl⟩
        have htx := ha.2.2.2 (by omega)
        rw [Nat.add_sub_cancel, ht] at htx
        rw [ht] at hS
        have hgap : gapsL d (l.take (m + 1 + 1)) = gapsL d (l.take (m + 1)) ++ (if fr l (m + 1) - t ≤ d then [(t, fr l (m + 1))] else []) := by
          rw [take_succ_sp (by omega), take_succ_sp (l := l) (k := m) (by omega), gapsL_snoc, ht]
        rw [hS] at i1 i2 i4 hf0 ⊢
        obtain ⟨g1, g2, g3, g4, g5⟩ := SetFrom.snoc.1 i1
        simp only at g3 g4 g5
        have hl : (S ++ [(f, t)]).length = S.length + 1 := by simp
        have htt : tt (S ++ [(f, t)]) S.length = t := by unfold tt; simp
        have hfirst : ∀ e : Int, fr (S ++ [(f, e)]) 0 = fr (S ++ [(f, t)]) 0 := fun e => by cases S <;> rfl
        by_cases hc : d < fr l (m + 1) - t
        · rw [mstep_new (.inr (by rw [hl, Nat.add_sub_cancel, htt]; exact hc))]
          refine ⟨SetFrom.snoc.2 ⟨i1, fun r hr => ?_, ha.1, ha.2.1, ha.2.2.1⟩, fun x => ?_, fun i h1 h2 => ?_, .inr ⟨by omega, _, fr l (m + 1), by rw [Nat.add_sub_cancel], ?_⟩⟩
          · rcases List.mem_append.1 hr with hr | hr
            · have := g2 r hr; simp only at this ⊢; omega
            · obtain rfl := List.mem_singleton.1 hr; simp only; omega
          · rw [memB_append, i2, hm, hgap, if_neg (by omega), List.append_nil, memB_cons, memB_nil, Bool.or_false]
            cases memB (l.take (m + 1)) x <;> cases memB (gapsL d (l.take (m + 1))) x <;> simp
          · by_cases g : i < S.length + 1
            · have := i4 i h1 (by omega)
              have e1 : fr (S ++ [(f, t)] ++ [(fr l (m + 1), tt l (m + 1))]) i = fr (S ++ [(f, t)]) i := by unfold fr; rw [List.getD_eq_getElem?_getD, List.getElem?_append_left (by omega), ← List.getD_eq_getElem?_getD]
              have e2 : tt (S ++ [(f, t)] ++ [(fr l (m + 1), tt l (m + 1))]) (i - 1) = tt (S ++ [(f, t)]) (i - 1) := by unfold tt; rw [List.getD_eq_getElem?_getD, List.getElem?_append_left (by omega), ← List.getD_eq_getElem?_getD]
              rw [e1, e2]; exact this
            · obtain rfl : i = S.length + 1 := by simp at h2; omega
              have e1 : fr (S ++ [(f, t)] ++ [(fr l (m + 1), tt l (m + 1))]) (S.length + 1) = fr l (m + 1) := fr_last hl
              have e2 : tt (S ++ [(f, t)] ++ [(fr l (m + 1), tt l (m + 1))]) (S.length + 1 - 1) = t := by rw [Nat.add_sub_cancel, tt_left (by omega), htt]
              rw [e1, e2]; exact hc
          · rw [← hf0]
            unfold fr
            rw [List.getD_eq_getElem?_getD, List.getElem?_append_left (by omega), ← List.getD_eq_getElem?_getD]
        · rw [mstep_ext hl (by rw [htt]; exact hc), ext_snoc, htt]
          have hmx : max t (tt l (m + 1)) = tt l (m + 1) := by omega
          simp only [hmx]
          refine ⟨SetFrom.snoc.2 ⟨g1, g2, g3, by simp only; omega, by simp only; omega⟩, fun x => ?_, fun i h1 h2 => ?_, .inr ⟨by omega, S, f, by rw [Nat.add_sub_cancel], by rw [hfirst]; exact hf0⟩⟩
          · have := i2 x
            rw [memB_append, memB_cons, memB_nil, Bool.or_false] at this ⊢
            simp only at this ⊢
            rw [hm, hgap, if_pos (by omega), memB_append, memB_cons, memB_nil, Bool.or_false]
            have e : (decide (f ≤ x) && decide (x < tt l (m + 1))) = ((decide (f ≤ x) && decide (x < t)) || ((decide (t ≤ x) && decide (x < fr l (m + 1))) || (decide (fr l (m + 1) ≤ x) && decide (x < tt l (m + 1))))) := by
              rw [Bool.eq_iff_iff]; simp; omega
            rw [e, ← Bool.or_assoc, this]
            simp only
            cases memB (l.take (m + 1)) x <;> cases memB (gapsL d (l.take (m + 1))) x <;> cases (decide (t ≤ x) && decide (x < fr l (m + 1))) <;> simp
          · have h2' : i < S.length + 1 := by simpa using h2
            have := i4 i h1 (by omega)
            have e1 : fr (S ++ [(f, tt l (m + 1))]) i = fr (S ++ [(f, t)]) i := by
              unfold fr
              by_cases g : i < S.length
              · rw [List.getD_eq_getElem?_getD, List.getD_eq_getElem?_getD, List.getElem?_append_left g, List.getElem?_append_left g]
              · obtain rfl : i = S.length := by omega
                simp
            have e2 : tt (S ++ [(f, tt l (m + 1))]) (i - 1) = tt (S ++ [(f, t)]) (i - 1) := by rw [tt_left (by omega), tt_left (by omega)]
            rw [e1, e2]; exact this
  have := H l.length (Nat.le_refl _)
  rw [List.take_length] at this
  refine ⟨this.1, this.2.1, this.2.2.1, ?_⟩
  rcases this.2.2.2 with ⟨h0, h1⟩ | h1
  · exact .inl ⟨List.eq_nil_of_length_eq_zero h0, h1⟩
  · exact .inr h1
end Go.Proofs.Ytpafnakepgjmnaa
