/- Sets of days as lists of pairs: membership, sets, the one set that has given days. Plain mathematics. -/
namespace Go.Proofs.Ytpafnakepgjmnaa

abbrev Sp := Int × Int
def fr (l : List Sp) (i : Nat) : Int := (l.getD i (0, 0)).1
def tt (l : List Sp) (i : Nat) : Int := (l.getD i (0, 0)).2

/-- Whether a day is one of the days of some spans. -/
def memB : List Sp → Int → Bool
  | [], _ => false
  | s :: l, d => (decide (s.1 ≤ d) && decide (d < s.2)) || memB l d

/-- Spans that are not empty, apart from each other, the first one from lo on. -/
def SetFrom : Int → List Sp → Prop
  | _, [] => True
  | lo, s :: l => lo ≤ s.1 ∧ s.1 < s.2 ∧ s.2 ≤ 65536 ∧ SetFrom (s.2 + 1) l

def IsSet (l : List Sp) : Prop := SetFrom 0 l

instance decSetFrom : (lo : Int) → (l : List Sp) → Decidable (SetFrom lo l)
  | _, [] => inferInstanceAs (Decidable True)
  | lo, s :: l => by
    have := decSetFrom (s.2 + 1) l
    unfold SetFrom
    infer_instance
instance (l : List Sp) : Decidable (IsSet l) := decSetFrom 0 l

theorem fr_zero (s : Sp) (l : List Sp) : fr (s :: l) 0 = s.1 := rfl
theorem tt_zero (s : Sp) (l : List Sp) : tt (s :: l) 0 = s.2 := rfl
theorem fr_succ (s : Sp) (l : List Sp) (i : Nat) : fr (s :: l) (i + 1) = fr l i := by unfold fr; simp
theorem tt_succ (s : Sp) (l : List Sp) (i : Nat) : tt (s :: l) (i + 1) = tt l i := by unfold tt; simp

theorem memB_cons (s : Sp) (l : List Sp) (d : Int) : memB (s :: l) d = ((decide (s.1 ≤ d) && decide (d < s.2)) || memB l d) := rfl
theorem memB_nil (d : Int) : memB [] d = false := rfl
theorem memB_append (a b : List Sp) (d : Int) : memB (a ++ b) d = (memB a d || memB b d) := by
  induction a with
  | nil => simp [memB]
  | cons s l ih => simp [memB, ih, Bool.or_assoc]
theorem memB_true {l : List Sp} {d : Int} : memB l d = true ↔ ∃ s ∈ l, s.1 ≤ d ∧ d < s.2 := by
  induction l with
  | nil => simp [memB]
  | cons s l ih => simp [memB, ih]
theorem memB_at {l : List Sp} {d : Int} : memB l d = true ↔ ∃ i, i < l.length ∧ fr l i ≤ d ∧ d < tt l i := by
  induction l with
  | nil => simp [memB]
  | cons s l ih =>
    rw [memB_cons, Bool.or_eq_true, ih]
    constructor
    · rintro (h | ⟨i, hi, h1, h2⟩)
      · simp at h; exact ⟨0, by simp, h.1, h.2⟩
      · exact ⟨i + 1, by simpa using hi, by rwa [fr_succ], by rwa [tt_succ]⟩
    · rintro ⟨i, hi, h1, h2⟩
      cases i with
      | zero => left; rw [fr_zero] at h1; rw [tt_zero] at h2; simp [h1, h2]
      | succ i => right; exact ⟨i, by simpa using hi, by rwa [fr_succ] at h1, by rwa [tt_succ] at h2⟩

theorem SetFrom.mono {lo lo' : Int} {l : List Sp} (h : SetFrom lo l) (hl : lo' ≤ lo) : SetFrom lo' l := by
  cases l with
  | nil => trivial
  | cons s l => exact ⟨by have := h.1; omega, h.2⟩
theorem SetFrom.mem {lo d : Int} {l : List Sp} (h : SetFrom lo l) (hm : memB l d = true) : lo ≤ d ∧ d < 65536 := by
  induction l generalizing lo with
  | nil => simp [memB] at hm
  | cons s l ih =>
    obtain ⟨h1, h2, h3, h4⟩ := h
    rw [memB_cons, Bool.or_eq_true] at hm
    rcases hm with hm | hm
    · simp at hm; omega
    · have := ih h4 hm; omega
theorem SetFrom.out {lo d : Int} {l : List Sp} (h : SetFrom lo l) (hd : d < lo ∨ 65536 ≤ d) : memB l d = false := by
  cases hm : memB l d with
  | false => rfl
  | true => have := h.mem hm; omega
theorem IsSet.mem {d : Int} {l : List Sp} (h : IsSet l) (hm : memB l d = true) : 0 ≤ d ∧ d < 65536 := SetFrom.mem h hm
theorem isSet_nil : IsSet [] := trivial

theorem SetFrom.iff {lo : Int} {l : List Sp} : SetFrom lo l ↔ (∀ i, i < l.length → fr l i < tt l i ∧ tt l i ≤ 65536 ∧ (0 < i → tt l (i - 1) < fr l i)) ∧ (0 < l.length → lo ≤ fr l 0) := by
  induction l generalizing lo with
  | nil => simp [SetFrom]
  | cons s l ih =>
    unfold SetFrom
    rw [ih]
    constructor
    · rintro ⟨h1, h2, h3, h4, h5⟩
      refine ⟨fun i hi => ?_, fun _ => h1⟩
      cases i with
      | zero => exact ⟨h2, h3, fun h => absurd h (by omega)⟩
      | succ i =>
        have hi' : i < l.length := by simpa using hi
        obtain ⟨a, b, c⟩ := h4 i hi'
        refine ⟨by rw [fr_succ, tt_succ]; exact a, by rw [tt_succ]; exact b, fun _ => ?_⟩
        rw [fr_succ, Nat.add_sub_cancel]
        cases i with
        | zero => rw [tt_zero]; have := h5 (by omega); omega
        | succ i => rw [tt_succ]; exact c (by omega)
    · rintro ⟨h1, h2⟩
      have h0 := h1 0 (by simp)
      rw [fr_zero, tt_zero] at h0
      refine ⟨h2 (by simp), h0.1, h0.2.1, fun i hi => ?_, fun hl => ?_⟩
      · obtain ⟨a, b, c⟩ := h1 (i + 1) (by simpa using hi)
        rw [fr_succ, tt_succ] at a
        rw [tt_succ] at b
        refine ⟨a, b, fun hi0 => ?_⟩
        have := c (by omega)
        rw [fr_succ, Nat.add_sub_cancel] at this
        cases i with
        | zero => omega
        | succ i => rwa [tt_succ] at this
      · have := (h1 1 (by simpa using hl)).2.2 (by omega)
        rw [fr_succ, show 1 - 1 = 0 from rfl, tt_zero] at this
        omega
theorem IsSet.at_ {l : List Sp} (h : IsSet l) {i : Nat} (hi : i < l.length) : 0 ≤ fr l i ∧ fr l i < tt l i ∧ tt l i ≤ 65536 ∧ (0 < i → tt l (i - 1) < fr l i) := by
  obtain ⟨h1, h2⟩ := SetFrom.iff.1 h
  refine ⟨?_, h1 i hi⟩
  clear hi
  suffices H : ∀ i, i < l.length → 0 ≤ fr l i by
    by_cases g : i < l.length
    · exact H i g
    · unfold fr; rw [List.getD_eq_getElem?_getD, List.getElem?_eq_none (by omega)]; exact Int.le_refl 0
  intro i
  induction i with
  | zero => intro g; exact h2 g
  | succ k ih =>
    intro g
    have a := ih (by omega)
    have b := h1 k (by omega)
    have c := (h1 (k + 1) g).2.2 (by omega)
    rw [Nat.add_sub_cancel] at c
    omega
theorem isSet_of {l : List Sp} (h : ∀ i, i < l.length → 0 ≤ fr l i ∧ fr l i < tt l i ∧ tt l i ≤ 65536 ∧ (0 < i → tt l (i - 1) < fr l i)) : IsSet l :=
  SetFrom.iff.2 ⟨fun i hi => (h i hi).2, fun hl => (h 0 hl).1⟩

theorem SetFrom.snoc {lo : Int} {l : List Sp} {s : Sp} : SetFrom lo (l ++ [s]) ↔ SetFrom lo l ∧ (∀ r ∈ l, r.2 < s.1) ∧ lo ≤ s.1 ∧ s.1 < s.2 ∧ s.2 ≤ 65536 := by
  induction l generalizing lo with
  | nil => simp [SetFrom]
  | cons r l ih =>
    rw [List.cons_append]
    unfold SetFrom
    rw [ih]
    constructor
    · rintro ⟨h1, h2, h3, h4, h5, h6, h7, h8⟩
      refine ⟨⟨h1, h2, h3, h4⟩, fun q hq => ?_, by omega, h7, h8⟩
      rcases List.mem_cons.1 hq with rfl | hq
      · omega
      · exact h5 q hq
    · rintro ⟨⟨h1, h2, h3, h4⟩, h5, h6, h7, h8⟩
      exact ⟨h1, h2, h3, h4, fun q hq => h5 q (List.mem_cons_of_mem _ hq), by have := h5 r (by simp); omega, h7, h8⟩

/-- Sets with the same days are the same. -/
theorem SetFrom.ext {lo lo' : Int} {a b : List Sp} (ha : SetFrom lo a) (hb : SetFrom lo' b) (h : ∀ d, memB a d = memB b d) : a = b := by
  induction a generalizing lo lo' b with
  | nil =>
    cases b with
    | nil => rfl
    | cons t b =>
      have := h t.1
      have hb2 := hb.2.1
      simp [memB, hb2] at this
  | cons s a ih =>
    cases b with
    | nil =>
      have := h s.1
      have ha2 := ha.2.1
      simp [memB, ha2] at this
    | cons t b =>
      obtain ⟨a1, a2, a3, a4⟩ := ha
      obtain ⟨b1, b2, b3, b4⟩ := hb
      have e1 : s.1 = t.1 := by
        have x := h s.1
        have y := h t.1
        rw [memB_cons, memB_cons] at x y
        rcases Int.lt_trichotomy s.1 t.1 with g | g | g
        · rw [b4.out (d := s.1) (by omega), decide_eq_true (Int.le_refl s.1), decide_eq_true a2, decide_eq_false (show ¬ t.1 ≤ s.1 by omega)] at x
          simp at x
        · exact g
        · rw [a4.out (d := t.1) (by omega), decide_eq_true (Int.le_refl t.1), decide_eq_true b2, decide_eq_false (show ¬ s.1 ≤ t.1 by omega)] at y
          simp at y
      have e2 : s.2 = t.2 := by
        have x := h s.2
        have y := h t.2
        rw [memB_cons, memB_cons] at x y
        rcases Int.lt_trichotomy s.2 t.2 with g | g | g
        · rw [a4.out (d := s.2) (by omega), decide_eq_true (show t.1 ≤ s.2 by omega), decide_eq_true g] at x
          simp at x
        · exact g
        · rw [b4.out (d := t.2) (by omega), decide_eq_true (show s.1 ≤ t.2 by omega), decide_eq_true g] at y
          simp at y
      obtain rfl : s = t := Prod.ext e1 e2
      rw [ih a4 b4 (fun d => ?_)]
      by_cases g : d ≤ s.2
      · rw [a4.out (by omega), b4.out (by omega)]
      · have := h d
        rw [memB_cons, memB_cons, decide_eq_false (show ¬ d < s.2 by omega)] at this
        simpa using this

/-- R is the set of the days ahead of d that are wanted. -/
def Upto (p : Int → Bool) (d : Int) (R : List Sp) : Prop := IsSet R ∧ ∀ x, memB R x = (p x && (decide (0 ≤ x) && decide (x < d)))

section
variable {p : Int → Bool} {d e : Int} {R R' : List Sp}
theorem Upto.uniq (h : Upto p d R) (h' : Upto p d R') : R = R' := SetFrom.ext h.1 h'.1 fun x => (h.2 x).trans (h'.2 x).symm
theorem upto_zero (p : Int → Bool) : Upto p 0 [] := ⟨isSet_nil, fun x => by
  rw [memB_nil]; by_cases h : 0 ≤ x
  · rw [decide_eq_false (show ¬ x < 0 by omega)]; simp
  · rw [decide_eq_false h]; simp⟩
theorem Upto.skip (h : Upto p d R) (hde : d ≤ e) (hp : ∀ x, 0 ≤ x → d ≤ x → x < e → p x = false) : Upto p e R := ⟨h.1, fun x => by
  rw [h.2 x]
  by_cases h0 : 0 ≤ x
  · by_cases h1 : x < d
    · rw [decide_eq_true h1, decide_eq_true (show x < e by omega)]
    · by_cases h2 : x < e
      · rw [hp x h0 (by omega) h2]; simp
      · rw [decide_eq_false h1, decide_eq_false h2]
  · rw [decide_eq_false h0]; simp⟩
theorem Upto.lt (h : Upto p d R) {r : Sp} (hr : r ∈ R) : r.2 ≤ d ∧ r.1 < r.2 := by
  have hlt : r.1 < r.2 := by
    obtain ⟨i, hi, rfl⟩ := List.getElem_of_mem hr
    have := (h.1.at_ hi).2.1
    unfold fr tt at this
    rwa [List.getD_eq_getElem?_getD, List.getElem?_eq_getElem hi] at this
  have hm : memB R (r.2 - 1) = true := memB_true.2 ⟨r, hr, by omega, by omega⟩
  rw [h.2] at hm
  simp at hm
  omega
theorem Upto.more (h : Upto p d R) (h0 : 0 ≤ d) (hde : d < e) (he : e ≤ 65536) (hb : p (d - 1) = false ∨ d = 0 ∨ ∀ r ∈ R, r.2 < d) (hp : ∀ x, d ≤ x → x < e → p x = true) : Upto p e (R ++ [(d, e)]) := by
  refine ⟨SetFrom.snoc.2 ⟨h.1, fun r hr => ?_, h0, hde, he⟩, fun x => ?_⟩
  · have hl := h.lt hr
    have hm : memB R (r.2 - 1) = true := memB_true.2 ⟨r, hr, by omega, by omega⟩
    rw [h.2] at hm
    simp at hm
    rcases hb with hb | hb | hb
    · show r.2 < d
      by_cases g : r.2 = d
      · rw [g] at hm; rw [hm.1] at hb; cases hb
      · omega
    · omega
    · exact hb r hr
  · rw [memB_append, h.2 x, memB_cons, memB_nil, Bool.or_false]
    by_cases h1 : x < d
    · rw [decide_eq_true h1, decide_eq_true (show x < e by omega), decide_eq_false (show ¬ d ≤ x by omega)]; simp
    · rw [decide_eq_false h1, decide_eq_true (show d ≤ x by omega)]
      by_cases h2 : x < e
      · rw [hp x (by omega) h2, decide_eq_true h2, decide_eq_true (show 0 ≤ x by omega)]; simp
      · rw [decide_eq_false h2]; simp
theorem Upto.long {f : Int} (h : Upto p d (R ++ [(f, d)])) (hde : d ≤ e) (he : e ≤ 65536) (hp : ∀ x, d ≤ x → x < e → p x = true) : Upto p e (R ++ [(f, e)]) := by
  obtain ⟨h1, h2, h3, h4, h5⟩ := SetFrom.snoc.1 h.1
  refine ⟨SetFrom.snoc.2 ⟨h1, h2, h3, by simp at h4 ⊢; omega, he⟩, fun x => ?_⟩
  have hx := h.2 x
  rw [memB_append, memB_cons, memB_nil, Bool.or_false] at hx ⊢
  simp only at hx h4 ⊢ h3
  by_cases g : x < d
  · rw [decide_eq_true (show x < e by omega)]
    rw [decide_eq_true g] at hx
    exact hx
  · rw [decide_eq_false g, Bool.and_false, Bool.and_false, Bool.and_false, Bool.or_false] at hx
    rw [hx, decide_eq_true (show f ≤ x by omega), decide_eq_true (show (0 : Int) ≤ x by omega)]
    by_cases g2 : x < e
    · rw [hp x (by omega) g2, decide_eq_true g2]; rfl
    · rw [decide_eq_false g2]; simp
theorem Upto.congr {q : Int → Bool} (h : Upto p d R) (hq : ∀ x, 0 ≤ x → x < d → p x = q x) : Upto q d R := ⟨h.1, fun x => by
  rw [h.2 x]
  by_cases h0 : 0 ≤ x
  · by_cases h1 : x < d
    · rw [hq x h0 h1]
    · rw [decide_eq_false h1]; simp
  · rw [decide_eq_false h0]; simp⟩
end

/-- The last span made to end at e. -/
def ext (l : List Sp) (e : Int) : List Sp := l.dropLast ++ [((l.getLast?.getD (0, 0)).1, e)]
theorem ext_snoc (l : List Sp) (s : Sp) (e : Int) : ext (l ++ [s]) e = l ++ [(s.1, e)] := by
  unfold ext
  rw [List.dropLast_concat, List.getLast?_concat]; rfl

/-- The set of the days ahead of n that are wanted, day by day. -/
def scan (p : Int → Bool) : Nat → List Sp
  | 0 => []
  | n + 1 => if p n then (if decide (0 < n) && p ((n : Int) - 1) then ext (scan p n) ((n : Int) + 1) else scan p n ++ [((n : Int), (n : Int) + 1)]) else scan p n

theorem Upto.last {p : Int → Bool} {d : Int} {R : List Sp} (h : Upto p d R) (h0 : 0 < d) (hp : p (d - 1) = true) : ∃ S f, R = S ++ [(f, d)] := by
  have hm : memB R (d - 1) = true := by rw [h.2, hp, decide_eq_true (show (0 : Int) ≤ d - 1 by omega), decide_eq_true (show d - 1 < d by omega)]; rfl
  obtain ⟨s, hs, h1, h2⟩ := memB_true.1 hm
  rcases List.eq_nil_or_concat R with rfl | ⟨S, t, rfl⟩
  · cases hs
  · rw [List.concat_eq_append] at *
    obtain ⟨g1, g2, g3, g4, g5⟩ := SetFrom.snoc.1 h.1
    have ht := h.lt (r := t) (by simp)
    refine ⟨S, t.1, ?_⟩
    have : t.2 = d := by
      rcases List.mem_append.1 hs with hs | hs
      · have := g2 s hs; omega
      · obtain rfl := List.mem_singleton.1 hs; omega
    rw [← this]
theorem upto_scan (p : Int → Bool) (n : Nat) (hn : n ≤ 65536) : Upto p n (scan p n) := by
  induction n with
  | zero => exact upto_zero p
  | succ n ih =>
    have h := ih (by omega)
    unfold scan
    have e1 : ((n + 1 : Nat) : Int) = (n : Int) + 1 := by omega
    rw [e1]
    by_cases hp : p n = true
    · rw [if_pos hp]
      have hall : ∀ x : Int, (n : Int) ≤ x → x < (n : Int) + 1 → p x = true := fun x h1 h2 => by
        obtain rfl : x = n := by omega
        exact hp
      by_cases hq : (decide (0 < n) && p ((n : Int) - 1)) = true
      · rw [if_pos hq]
        rw [Bool.and_eq_true, decide_eq_true_iff] at hq
        obtain ⟨S, f, hS⟩ := h.last (by omega) hq.2
        rw [hS] at h ⊢
        rw [ext_snoc]
        exact h.long (by omega) (by omega) hall
      · rw [if_neg hq]
        refine h.more (by omega) (by omega) (by omega) ?_ hall
        by_cases g : n = 0
        · right; left; omega
        · left
          rw [Bool.and_eq_true, decide_eq_true_iff] at hq
          cases hb : p ((n : Int) - 1) with
          | false => rfl
          | true => exact absurd ⟨by omega, hb⟩ hq
    · rw [if_neg hp]
      refine h.skip (by omega) fun x _ h1 h2 => ?_
      obtain rfl : x = n := by omega
      simpa using hp

/-- The set of the days that are wanted. -/
def norm (p : Int → Bool) : List Sp := scan p 65536
theorem upto_norm (p : Int → Bool) : Upto p 65536 (norm p) := upto_scan p 65536 (by omega)
theorem norm_set (p : Int → Bool) : IsSet (norm p) := (upto_norm p).1
theorem norm_mem (p : Int → Bool) (x : Int) : memB (norm p) x = (p x && (decide (0 ≤ x) && decide (x < 65536))) := (upto_norm p).2 x
theorem Upto.norm {p : Int → Bool} {R : List Sp} (h : Upto p 65536 R) : R = norm p := h.uniq (upto_norm p)
theorem norm_congr {p q : Int → Bool} (h : ∀ x, 0 ≤ x → x < 65536 → p x = q x) : norm p = norm q := ((upto_norm p).congr h).norm
theorem norm_self {l : List Sp} (h : IsSet l) : norm (memB l) = l := (Upto.norm ⟨h, fun x => by
  cases hm : memB l x with
  | false => simp
  | true => have := h.mem hm; simp [this]⟩).symm
end Go.Proofs.Ytpafnakepgjmnaa
