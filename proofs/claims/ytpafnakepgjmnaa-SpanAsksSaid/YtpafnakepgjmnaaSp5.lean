/- The days at which membership changes. Plain mathematics. -/
import Derived.Test.YtpafnakepgjmnaaSp4
namespace Go.Proofs.Ytpafnakepgjmnaa

def odd (i : Nat) : Bool := decide (i % 2 = 1)
theorem odd_even (k : Nat) : odd (2 * k) = false := decide_eq_false (by omega)
theorem odd_odd (k : Nat) : odd (2 * k + 1) = true := decide_eq_true (by omega)
/-- The day of the border number i, or the number behind all days. -/
def dayV (l : List Sp) (i : Nat) : Int := if l.length ≤ i / 2 then 65537 else if i % 2 = 1 then tt l (i / 2) else fr l (i / 2)
theorem dayV_end {l : List Sp} {i : Nat} (h : l.length ≤ i / 2) : dayV l i = 65537 := if_pos h
theorem dayV_even {l : List Sp} {k : Nat} (h : k < l.length) : dayV l (2 * k) = fr l k := by
  unfold dayV; rw [if_neg (by omega), if_neg (by omega), show 2 * k / 2 = k by omega]
theorem dayV_odd {l : List Sp} {k : Nat} (h : k < l.length) : dayV l (2 * k + 1) = tt l k := by
  unfold dayV; rw [if_neg (by omega), if_pos (by omega), show (2 * k + 1) / 2 = k by omega]
theorem half (i : Nat) : (∃ k, i = 2 * k) ∨ ∃ k, i = 2 * k + 1 := by
  rcases Nat.mod_two_eq_zero_or_one i with h | h
  · exact .inl ⟨i / 2, by omega⟩
  · exact .inr ⟨i / 2, by omega⟩
theorem day_bd {l : List Sp} (h : IsSet l) {i : Nat} (hi : i < 2 * l.length) : 0 ≤ dayV l i ∧ dayV l i ≤ 65536 := by
  rcases half i with ⟨k, rfl⟩ | ⟨k, rfl⟩
  · have := h.at_ (i := k) (by omega)
    rw [dayV_even (by omega)]; omega
  · have := h.at_ (i := k) (by omega)
    rw [dayV_odd (by omega)]; omega
theorem day_bd2 {l : List Sp} (h : IsSet l) (i : Nat) : 0 ≤ dayV l i ∧ dayV l i ≤ 65537 := by
  by_cases hi : i < 2 * l.length
  · have := day_bd h hi; omega
  · rw [dayV_end (by omega)]; omega
theorem day_lt {l : List Sp} (h : IsSet l) {i : Nat} (hi : i < 2 * l.length) : dayV l i < dayV l (i + 1) := by
  rcases half i with ⟨k, rfl⟩ | ⟨k, rfl⟩
  · have := h.at_ (i := k) (by omega)
    rw [dayV_even (by omega), dayV_odd (by omega)]; omega
  · have h0 := h.at_ (i := k) (by omega)
    rw [dayV_odd (by omega)]
    by_cases hk : k + 1 < l.length
    · have := (h.at_ hk).2.2.2 (by omega)
      rw [show 2 * k + 1 + 1 = 2 * (k + 1) by omega, dayV_even hk]
      rw [Nat.add_sub_cancel] at this
      exact this
    · rw [dayV_end (by omega)]; omega
theorem IsSet.tt_mono' {l : List Sp} (h : IsSet l) {a b : Nat} (hab : a ≤ b) (hb : b < l.length) : tt l a ≤ tt l b := by
  induction b with
  | zero =>
    obtain rfl : a = 0 := by omega
    exact Int.le_refl _
  | succ b ih =>
    by_cases g : a = b + 1
    · subst g; exact Int.le_refl _
    · have := ih (by omega) (by omega)
      have h2 := h.at_ hb
      have := h2.2.2.2 (by omega)
      rw [Nat.add_sub_cancel] at this
      omega
theorem IsSet.fr_gt {l : List Sp} (h : IsSet l) {a b : Nat} (hab : a < b) (hb : b < l.length) : tt l a < fr l b := by
  have h1 := h.tt_mono' (a := a) (b := b - 1) (by omega) (by omega)
  have h2 := (h.at_ hb).2.2.2 (by omega)
  omega
theorem day_mem {l : List Sp} (h : IsSet l) {i : Nat} (hi : i ≤ 2 * l.length) {x : Int} (h1 : x < dayV l i) (h2 : i = 0 ∨ dayV l (i - 1) ≤ x) : memB l x = odd i := by
  rcases half i with ⟨k, rfl⟩ | ⟨k, rfl⟩
  · rw [odd_even, Bool.eq_false_iff]
    intro hm
    obtain ⟨m, hml, m1, m2⟩ := memB_at.1 hm
    by_cases g : m < k
    · rcases h2 with h2 | h2
      · omega
      · obtain ⟨q, rfl⟩ : ∃ q, k = q + 1 := ⟨k - 1, by omega⟩
        rw [show 2 * (q + 1) - 1 = 2 * q + 1 by omega, dayV_odd (by omega)] at h2
        have := h.tt_mono' (a := m) (b := q) (by omega) (by omega)
        omega
    · rw [dayV_even (by omega)] at h1
      by_cases g2 : m = k
      · subst g2; omega
      · have := h.fr_gt (a := k) (b := m) (by omega) hml
        have := h.at_ (i := k) (by omega)
        omega
  · rw [odd_odd, memB_at]
    have hk : k < l.length := by omega
    rw [dayV_odd hk] at h1
    rcases h2 with h2 | h2
    · omega
    · rw [Nat.add_sub_cancel, dayV_even hk] at h2
      exact ⟨k, hk, h2, h1⟩

/-- The borders ahead of i in the one set, of j in the other one, are passed at day t. -/
structure At (a b : List Sp) (i j : Nat) (t : Int) : Prop where
  t0 : 0 ≤ t
  t1 : t ≤ 65536
  ia : i ≤ 2 * a.length
  jb : j ≤ 2 * b.length
  pa : i = 0 ∨ dayV a (i - 1) ≤ t
  pb : j = 0 ∨ dayV b (j - 1) ≤ t
  lt : (i = 0 ∧ j = 0 ∧ t = 0) ∨ (t < dayV a i ∧ t < dayV b j)

def nxtD (a b : List Sp) (i j : Nat) : Int := min (dayV a i) (dayV b j)
def nxtI (a b : List Sp) (i j : Nat) : Nat := if dayV a i = nxtD a b i j then i + 1 else i
def nxtJ (a b : List Sp) (i j : Nat) : Nat := if dayV b j = nxtD a b i j then j + 1 else j

section
variable {a b : List Sp} {i j : Nat} {t : Int}
theorem at_start (a b : List Sp) : At a b 0 0 0 := ⟨by omega, by omega, by omega, by omega, .inl rfl, .inl rfl, .inl ⟨rfl, rfl, rfl⟩⟩
theorem At.mem (h : At a b i j t) (ha : IsSet a) (hb : IsSet b) {x : Int} (h1 : t ≤ x) (h2 : x < nxtD a b i j) : memB a x = odd i ∧ memB b x = odd j := by
  unfold nxtD at h2
  refine ⟨day_mem ha h.ia (by omega) (h.pa.imp id fun g => by omega), day_mem hb h.jb (by omega) (h.pb.imp id fun g => by omega)⟩
theorem day_end_iff {l : List Sp} (h : IsSet l) {i : Nat} (hi : i ≤ 2 * l.length) : dayV l i = 65537 ↔ i = 2 * l.length := by
  constructor
  · intro g
    by_cases hl : i < 2 * l.length
    · have := day_bd h hl; omega
    · omega
  · rintro rfl; exact dayV_end (by omega)
theorem nxt_end (ha : IsSet a) (hb : IsSet b) (hi : i ≤ 2 * a.length) (hj : j ≤ 2 * b.length) : nxtD a b i j = 65537 ↔ i = 2 * a.length ∧ j = 2 * b.length := by
  have b1 := day_bd2 ha i
  have b2 := day_bd2 hb j
  rw [← day_end_iff ha hi, ← day_end_iff hb hj]
  unfold nxtD
  omega
theorem At.next (h : At a b i j t) (ha : IsSet a) (hb : IsSet b) (hd : nxtD a b i j ≠ 65537) : At a b (nxtI a b i j) (nxtJ a b i j) (nxtD a b i j) ∧ t ≤ nxtD a b i j ∧ ((i = 0 ∧ j = 0 ∧ t = 0) ∨ t < nxtD a b i j) ∧ 0 ≤ nxtD a b i j ∧ nxtD a b i j ≤ 65536 := by
  have a1 := day_bd2 ha i
  have b1 := day_bd2 hb j
  have hlt := h.lt
  have t0 := h.t0
  have e : nxtD a b i j = min (dayV a i) (dayV b j) := rfl
  have da : dayV a i ≠ 65537 → i < 2 * a.length := fun g => by
    have h1 := h.ia
    by_cases q : i < 2 * a.length
    · exact q
    · exact absurd (dayV_end (by omega)) g
  have db : dayV b j ≠ 65537 → j < 2 * b.length := fun g => by
    have h1 := h.jb
    by_cases q : j < 2 * b.length
    · exact q
    · exact absurd (dayV_end (by omega)) g
  have hle : t ≤ nxtD a b i j := by omega
  refine ⟨⟨by omega, by omega, ?_, ?_, ?_, ?_, .inr ⟨?_, ?_⟩⟩, hle, by omega, by omega, by omega⟩
  · unfold nxtI
    split
    · have := da (by omega); omega
    · exact h.ia
  · unfold nxtJ
    split
    · have := db (by omega); omega
    · exact h.jb
  · unfold nxtI
    split
    · right; rw [Nat.add_sub_cancel]; omega
    · exact h.pa.imp id fun g => by omega
  · unfold nxtJ
    split
    · right; rw [Nat.add_sub_cancel]; omega
    · exact h.pb.imp id fun g => by omega
  · unfold nxtI
    split
    · have := day_lt ha (da (by omega)); omega
    · omega
  · unfold nxtJ
    split
    · have := day_lt hb (db (by omega)); omega
    · omega

/-- What combine has collected. -/
def Coll (p : Int → Bool) (ins : Bool) (t : Int) (R : List Sp) : Prop :=
  match ins with
  | false => Upto p t R
  | true => ∃ R0 f, R = R0 ++ [(f, 0)] ∧ Upto p f R0 ∧ (p (f - 1) = false ∨ f = 0) ∧ 0 ≤ f ∧ f ≤ t ∧ ∀ x, f ≤ x → x < t → p x = true

theorem coll_same {p : Int → Bool} {ins : Bool} {t d : Int} {R : List Sp} (h : Coll p ins t R) (htd : t ≤ d) (hp : ∀ x, t ≤ x → x < d → p x = ins) : Coll p ins d R := by
  cases ins with
  | false => exact Upto.skip h htd fun x _ h1 h2 => hp x h1 h2
  | true =>
    obtain ⟨R0, f, h1, h2, h3, h4, h5, h6⟩ := h
    refine ⟨R0, f, h1, h2, h3, h4, by omega, fun x g1 g2 => ?_⟩
    by_cases g : x < t
    · exact h6 x g1 g
    · exact hp x (by omega) g2
theorem coll_close {p : Int → Bool} {t d : Int} {R : List Sp} (h : Coll p true t R) (htd : t < d) (hd : d ≤ 65536) (hp : ∀ x, t ≤ x → x < d → p x = true) : ∃ R0 f, R = R0 ++ [(f, 0)] ∧ Coll p false d (R0 ++ [(f, d)]) := by
  obtain ⟨R0, f, h1, h2, h3, h4, h5, h6⟩ := h
  refine ⟨R0, f, h1, h2.more h4 (by omega) hd (h3.imp id .inl) fun x g1 g2 => ?_⟩
  by_cases g : x < t
  · exact h6 x g1 g
  · exact hp x (by omega) g2
theorem coll_open {p : Int → Bool} {t d : Int} {R : List Sp} (h : Coll p false t R) (htd : t ≤ d) (hd0 : 0 ≤ d) (hlt : t < d ∨ d = 0) (hp : ∀ x, t ≤ x → x < d → p x = false) : Coll p true d (R ++ [(d, 0)]) := by
  have h1 : Upto p d R := coll_same h htd hp
  refine ⟨R, d, rfl, h1, ?_, hd0, Int.le_refl _, fun x g1 g2 => by omega⟩
  rcases hlt with g | g
  · exact .inl (hp _ (by omega) (by omega))
  · exact .inr g
theorem coll_done {p : Int → Bool} {t : Int} {R : List Sp} (h : Coll p false t R) (ht : t ≤ 65536) (hp : ∀ x, t ≤ x → x < 65536 → p x = false) : R = norm p :=
  Upto.norm (coll_same h ht hp)

/-- The set of the days of which a function of membership in two sets is true. -/
def combL (P : Bool → Bool → Bool) (a b : List Sp) : List Sp := norm fun x => P (memB a x) (memB b x)
end
end Go.Proofs.Ytpafnakepgjmnaa
