/- How many days a set has: in all, ahead of a day; the day of a number. Plain mathematics. -/
import Derived.Test.YtpafnakepgjmnaaSp1
namespace Go.Proofs.Ytpafnakepgjmnaa

def lenSum : List Sp → Int
  | [] => 0
  | s :: l => (s.2 - s.1) + lenSum l

theorem lenSum_append (a b : List Sp) : lenSum (a ++ b) = lenSum a + lenSum b := by
  induction a with
  | nil => simp [lenSum]
  | cons s a ih => simp only [List.cons_append, lenSum, ih]; omega
theorem take_succ_sp {l : List Sp} {k : Nat} (h : k < l.length) : l.take (k + 1) = l.take k ++ [(fr l k, tt l k)] := by
  rw [List.take_succ_eq_append_getElem h]
  congr 1
  unfold fr tt
  rw [List.getD_eq_getElem?_getD, List.getElem?_eq_getElem h]
  rfl
theorem lenSum_take {l : List Sp} {k : Nat} (h : k < l.length) : lenSum (l.take (k + 1)) = lenSum (l.take k) + (tt l k - fr l k) := by
  rw [take_succ_sp h, lenSum_append]; simp [lenSum]
theorem SetFrom.sum_bd {lo : Int} {l : List Sp} (h : SetFrom lo l) (h0 : lo ≤ 65537) : 0 ≤ lenSum l ∧ (l ≠ [] → lenSum l ≤ 65536 - lo) ∧ (l.length : Int) ≤ lenSum l := by
  induction l generalizing lo with
  | nil => simp [lenSum]
  | cons s l ih =>
    obtain ⟨h1, h2, h3, h4⟩ := h
    obtain ⟨i1, i2, i3⟩ := ih h4 (by omega)
    unfold lenSum
    refine ⟨by omega, fun _ => ?_, by simp; omega⟩
    by_cases g : l = []
    · subst g; simp [lenSum]; omega
    · have := i2 g; omega
theorem IsSet.sum_bd {l : List Sp} (h : IsSet l) : 0 ≤ lenSum l ∧ lenSum l ≤ 65536 := by
  have := SetFrom.sum_bd h (by omega)
  refine ⟨this.1, ?_⟩
  by_cases g : l = []
  · subst g; simp [lenSum]
  · have := this.2.1 g; omega
theorem IsSet.len_bd {l : List Sp} (h : IsSet l) : l.length ≤ 65536 := by
  have := (SetFrom.sum_bd h (by omega)).2.2
  have := h.sum_bd.2
  omega
theorem IsSet.take {l : List Sp} (h : IsSet l) (k : Nat) : IsSet (l.take k) := by
  have h' := h
  unfold IsSet at h' ⊢
  suffices H : ∀ lo (l : List Sp), SetFrom lo l → SetFrom lo (l.take k) from H 0 l h'
  intro lo l
  induction l generalizing lo k with
  | nil => intro _; simp [SetFrom]
  | cons s l ih =>
    intro h
    cases k with
    | zero => simp [SetFrom]
    | succ k => rw [List.take_succ_cons]; exact ⟨h.1, h.2.1, h.2.2.1, ih k _ h.2.2.2⟩

/-- How many days ahead of d are days of the spans. -/
def befL : List Sp → Int → Int
  | [], _ => 0
  | s :: l, d => (if d ≤ s.1 then 0 else if s.2 ≤ d then s.2 - s.1 else d - s.1) + befL l d
theorem befL_append (a b : List Sp) (d : Int) : befL (a ++ b) d = befL a d + befL b d := by
  induction a with
  | nil => simp [befL]
  | cons s a ih => simp only [List.cons_append, befL, ih]; omega
theorem SetFrom.bef_low {lo d : Int} {l : List Sp} (h : SetFrom lo l) (hd : d ≤ lo) : befL l d = 0 := by
  induction l generalizing lo with
  | nil => rfl
  | cons s l ih =>
    obtain ⟨h1, h2, h3, h4⟩ := h
    rw [befL, ih h4 (by omega), if_pos (by omega)]
    rfl
theorem bef_high {d : Int} {l : List Sp} (h : ∀ s ∈ l, s.1 < s.2 ∧ s.2 ≤ d) : befL l d = lenSum l := by
  induction l with
  | nil => rfl
  | cons s l ih =>
    have := h s (by simp)
    rw [befL, lenSum, ih (fun r hr => h r (List.mem_cons_of_mem _ hr)), if_neg (by omega), if_pos this.2]
theorem SetFrom.all {lo : Int} {l : List Sp} (h : SetFrom lo l) : ∀ s ∈ l, s.1 < s.2 ∧ s.2 ≤ 65536 ∧ lo ≤ s.1 := by
  induction l generalizing lo with
  | nil => simp
  | cons r l ih =>
    obtain ⟨h1, h2, h3, h4⟩ := h
    intro s hs
    rcases List.mem_cons.1 hs with rfl | hs
    · exact ⟨h2, h3, h1⟩
    · have := ih h4 s hs; exact ⟨this.1, this.2.1, by omega⟩
theorem IsSet.bef_all {l : List Sp} {d : Int} (h : IsSet l) (hd : 65536 ≤ d) : befL l d = lenSum l :=
  bef_high fun s hs => by have := SetFrom.all h s hs; omega
theorem SetFrom.bef_bd {lo d : Int} {l : List Sp} (h : SetFrom lo l) : 0 ≤ befL l d ∧ befL l d ≤ lenSum l := by
  induction l generalizing lo with
  | nil => simp [befL, lenSum]
  | cons s l ih =>
    obtain ⟨h1, h2, h3, h4⟩ := h
    have := ih h4
    rw [befL, lenSum]
    split
    · omega
    · split <;> omega
/-- Of a set that ends at a span that ends behind d. -/
theorem IsSet.bef_at {l : List Sp} {d : Int} (h : IsSet l) {k : Nat} (hk : k ≤ l.length) (h1 : ∀ i, i < k → tt l i ≤ d) (h2 : k < l.length → d < tt l k) :
    befL l d = lenSum (l.take k) + (if k < l.length ∧ fr l k < d then d - fr l k else 0) := by
  unfold IsSet at h
  suffices H : ∀ (lo : Int) (l : List Sp) (k : Nat), SetFrom lo l → k ≤ l.length → (∀ i, i < k → tt l i ≤ d) → (k < l.length → d < tt l k) → befL l d = lenSum (l.take k) + (if k < l.length ∧ fr l k < d then d - fr l k else 0) from H 0 l k h hk h1 h2
  intro lo l
  induction l generalizing lo with
  | nil => intro k _ hk _ _; simp [befL, lenSum]
  | cons s l ih =>
    intro k h hk h1 h2
    obtain ⟨a1, a2, a3, a4⟩ := h
    cases k with
    | zero =>
      have hd := h2 (by simp)
      rw [tt_zero] at hd
      rw [befL, a4.bef_low (by omega), fr_zero, List.take_zero, lenSum]
      by_cases g : d ≤ s.1
      · rw [if_pos g, if_neg (by omega)]
      · rw [if_neg g, if_neg (by omega), if_pos ⟨by simp, by omega⟩]; omega
    | succ k =>
      have hd := h1 0 (by omega)
      rw [tt_zero] at hd
      have hk' : k ≤ l.length := by simpa using hk
      rw [befL, List.take_succ_cons, lenSum, ih (s.2 + 1) k a4 hk' (fun i hi => by have := h1 (i + 1) (by omega); rwa [tt_succ] at this) (fun g => by have := h2 (by simpa using g); rwa [tt_succ] at this),
        if_neg (by omega), if_pos hd, fr_succ]
      simp only [List.length_cons, Nat.add_lt_add_iff_right]
      omega

/-- The day of which n days are less. -/
def nthL : List Sp → Int → Option Int
  | [], _ => none
  | s :: l, n => if n < s.2 - s.1 then some (s.1 + n) else nthL l (n - (s.2 - s.1))
theorem nthL_drop {l : List Sp} {k : Nat} (h : k < l.length) (n : Int) : nthL (l.drop k) n = if n < tt l k - fr l k then some (fr l k + n) else nthL (l.drop (k + 1)) (n - (tt l k - fr l k)) := by
  rw [List.drop_eq_getElem_cons h, nthL]
  unfold fr tt
  rw [List.getD_eq_getElem?_getD, List.getElem?_eq_getElem h]
  rfl
theorem nthL_some {lo d n : Int} {l : List Sp} (h : SetFrom lo l) (hn : 0 ≤ n) (hd : nthL l n = some d) : befL l d = n ∧ memB l d = true := by
  induction l generalizing lo n with
  | nil => cases hd
  | cons s l ih =>
    obtain ⟨h1, h2, h3, h4⟩ := h
    rw [nthL] at hd
    by_cases g : n < s.2 - s.1
    · rw [if_pos g] at hd
      obtain rfl := Option.some.inj hd
      rw [befL, h4.bef_low (by omega), memB_cons]
      refine ⟨?_, by simp; left; omega⟩
      split
      · omega
      · rw [if_neg (by omega)]; omega
    · rw [if_neg g] at hd
      obtain ⟨i1, i2⟩ := ih h4 (by omega) hd
      have hm := h4.mem i2
      rw [befL, i1, if_neg (by omega), if_pos (by omega), memB_cons, i2]
      exact ⟨by omega, by simp⟩
theorem nthL_none {lo n : Int} {l : List Sp} (h : SetFrom lo l) (hn : 0 ≤ n) : nthL l n = none ↔ lenSum l ≤ n := by
  induction l generalizing lo n with
  | nil => simp [nthL, lenSum]; omega
  | cons s l ih =>
    obtain ⟨h1, h2, h3, h4⟩ := h
    have hb := h4.sum_bd (by omega)
    rw [nthL, lenSum]
    by_cases g : n < s.2 - s.1
    · rw [if_pos g]
      constructor
      · intro hx; cases hx
      · omega
    · rw [if_neg g, ih h4 (by omega)]
      omega
theorem bef_cons_in {s : Sp} {l : List Sp} {d : Int} (h : SetFrom (s.2 + 1) l) (h1 : s.1 ≤ d) (h2 : d < s.2) : befL (s :: l) d = d - s.1 := by
  rw [befL, h.bef_low (by omega)]
  by_cases g : d ≤ s.1
  · rw [if_pos g]; omega
  · rw [if_neg g, if_neg (by omega)]; omega
theorem bef_cons_low {s : Sp} {l : List Sp} {d : Int} (h : SetFrom (s.2 + 1) l) (h1 : d ≤ s.1) (h2 : s.1 < s.2) : befL (s :: l) d = 0 := by
  rw [befL, h.bef_low (by omega), if_pos h1]; rfl
theorem bef_cons_out {s : Sp} {l : List Sp} {d : Int} (h1 : s.1 < s.2) (h2 : s.2 ≤ d) : befL (s :: l) d = s.2 - s.1 + befL l d := by
  rw [befL, if_neg (by omega), if_pos h2]
theorem nthL_bef {lo d : Int} {l : List Sp} (h : SetFrom lo l) (hd : memB l d = true) : nthL l (befL l d) = some d := by
  induction l generalizing lo with
  | nil => cases hd
  | cons s l ih =>
    obtain ⟨h1, h2, h3, h4⟩ := h
    rw [memB_cons, Bool.or_eq_true] at hd
    by_cases g : d < s.2
    · have hx : s.1 ≤ d := by
        rcases hd with hd | hd
        · simp at hd; omega
        · have := h4.mem hd; omega
      rw [bef_cons_in h4 hx g, nthL, if_pos (by omega)]; congr 1; omega
    · have hm : memB l d = true := by
        rcases hd with hd | hd
        · simp at hd; omega
        · exact hd
      have hb := h4.bef_bd (d := d)
      rw [bef_cons_out h2 (by omega), nthL, if_neg (by omega), show s.2 - s.1 + befL l d - (s.2 - s.1) = befL l d by omega]
      exact ih h4 hm
theorem nthL_ge {lo d x : Int} {l : List Sp} (h : SetFrom lo l) (hx : nthL l (befL l d) = some x) : d ≤ x := by
  induction l generalizing lo with
  | nil => cases hx
  | cons s l ih =>
    obtain ⟨h1, h2, h3, h4⟩ := h
    have hb := h4.bef_bd (d := d)
    by_cases g : d < s.2
    · by_cases g2 : s.1 ≤ d
      · rw [bef_cons_in h4 g2 g, nthL, if_pos (by omega)] at hx
        have := Option.some.inj hx; omega
      · rw [bef_cons_low h4 (by omega) h2, nthL, if_pos (by omega)] at hx
        have := Option.some.inj hx; omega
    · rw [bef_cons_out h2 (by omega), nthL, if_neg (by omega), show s.2 - s.1 + befL l d - (s.2 - s.1) = befL l d by omega] at hx
      exact ih h4 hx

/-- How many days ahead of n are wanted. -/
def cnt (p : Int → Bool) : Nat → Int
  | 0 => 0
  | n + 1 => cnt p n + (bif p n then 1 else 0)
theorem cnt_congr {p q : Int → Bool} {n : Nat} (h : ∀ x : Nat, x < n → p x = q x) : cnt p n = cnt q n := by
  induction n with
  | zero => rfl
  | succ n ih => rw [cnt, cnt, ih (fun x hx => h x (by omega)), h n (by omega)]
theorem cnt_and_or (p q : Int → Bool) (n : Nat) : cnt (fun x => p x || q x) n + cnt (fun x => p x && q x) n = cnt p n + cnt q n := by
  induction n with
  | zero => rfl
  | succ n ih =>
    simp only [cnt]
    cases hp : p n <;> cases hq : q n <;> simp <;> omega
theorem cnt_false (n : Nat) : cnt (fun _ => false) n = 0 := by
  induction n with
  | zero => rfl
  | succ n ih => simp [cnt, ih]
theorem cnt_span {a b : Int} (h0 : 0 ≤ a) (hab : a < b) (n : Nat) : cnt (fun x => decide (a ≤ x) && decide (x < b)) n = (if (n : Int) ≤ a then 0 else if b ≤ n then b - a else n - a) := by
  induction n with
  | zero => simp [cnt]; omega
  | succ n ih =>
    simp only [cnt, ih]
    by_cases h1 : a ≤ (n : Int)
    · by_cases h2 : (n : Int) < b
      · rw [decide_eq_true h1, decide_eq_true h2, Bool.and_self, cond_true]
        repeat' split
        all_goals omega
      · rw [decide_eq_false h2, Bool.and_false, cond_false]
        repeat' split
        all_goals omega
    · rw [decide_eq_false h1, Bool.false_and, cond_false]
      repeat' split
      all_goals omega
theorem SetFrom.cnt_bef {lo : Int} {l : List Sp} (h : SetFrom lo l) (h0 : 0 ≤ lo) (n : Nat) : cnt (memB l) n = befL l n := by
  induction l generalizing lo with
  | nil =>
    have : memB [] = fun _ => false := by funext x; rfl
    rw [this, cnt_false]; rfl
  | cons s l ih =>
    obtain ⟨h1, h2, h3, h4⟩ := h
    have e := cnt_and_or (fun x => decide (s.1 ≤ x) && decide (x < s.2)) (memB l) n
    have e2 : cnt (fun x => (decide (s.1 ≤ x) && decide (x < s.2)) && memB l x) n = 0 := by
      rw [← cnt_false n]
      refine cnt_congr fun x _ => ?_
      cases hm : memB l x with
      | false => simp
      | true => have := h4.mem hm; simp; omega
    have e3 : memB (s :: l) = fun x => (decide (s.1 ≤ x) && decide (x < s.2)) || memB l x := by funext x; rfl
    rw [e3, befL, ← ih h4 (by omega), ← cnt_span (by omega) h2 n]
    omega
theorem IsSet.cnt_bef {l : List Sp} (h : IsSet l) (n : Nat) : cnt (memB l) n = befL l n := SetFrom.cnt_bef h (by omega) n
theorem IsSet.cnt_all {l : List Sp} (h : IsSet l) : cnt (memB l) 65536 = lenSum l := by
  rw [h.cnt_bef]; exact h.bef_all (by omega)
end Go.Proofs.Ytpafnakepgjmnaa
