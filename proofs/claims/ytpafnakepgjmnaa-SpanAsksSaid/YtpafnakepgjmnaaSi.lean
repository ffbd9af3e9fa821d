/- Clone, SortFunc at spans; ordered. -/
import Derived.Test.YtpafnakepgjmnaaSh
namespace Go.Proofs.Ytpafnakepgjmnaa
open Go.RowKit Go.Lib Go.Shelf

theorem cells_pos {l : List Sp} {j : Nat} (h : j < l.length * 2) : (cellsOf l)[j]? = some (.int .i64 (if j % 2 = 0 then fr l (j / 2) else tt l (j / 2))) := by
  have hc := cells_at (l := l) (i := j / 2) (by omega)
  rcases Nat.mod_two_eq_zero_or_one j with g | g
  · rw [if_pos g, show j = j / 2 * 2 by omega, hc.1]; congr 3; omega
  · rw [if_neg (by omega), show j = j / 2 * 2 + 1 by omega, hc.2]; congr 3; omega
theorem SpH.cellsAt {w : World} {b off : Nat} {l : List Sp} (h : SpH w (some ⟨b, off, none⟩) l) (j : Nat) (u : Value) (hu : (cellsOf l)[j]? = some u) : w.cell? ⟨b, off + j, none⟩ = some u := by
  have hj : j < l.length * 2 := by have := (List.getElem?_eq_some_iff.1 hu).1; rwa [cells_len] at this
  obtain ⟨b', off', e, _, hc⟩ := h (by intro g; subst g; simp at hj)
  cases e
  have hc := hc (j / 2) (by omega)
  rw [cells_pos hj] at hu
  rw [← hu]
  rcases Nat.mod_two_eq_zero_or_one j with g | g
  · rw [if_pos g, ← hc.1]; congr 2; omega
  · rw [if_neg (by omega), ← hc.2]; congr 2; omega

/-- Clone: a slice of the call's own that holds the same. -/
theorem clone_any (l : List Sp) (A : Option Addr) (n c : Nat) (w : World) (hn : l.length = n) (hm : n ≤ 8796093022208) (hA : SpH w A l) (hz : A = none → n = 0) (hA2 : ∀ a, A = some a → a.spot = none) :
    Calls Try.prog 65 #[.slice A n c] w fun e w' => ∃ v, e = .returned v ∧ OwnSp w' w.heap.size v l ∧ Below w.heap.size w w' := by
  cases A with
  | none =>
    obtain rfl := hz rfl
    obtain rfl : l = [] := List.eq_nil_of_length_eq_zero hn
    exact (AnyE.slices_Clone_nil Try.clone 0 c w).mono fun e w' ⟨he, hw⟩ => ⟨_, he, by subst hw; exact ownSp_nil _ _, by subst hw; exact Below.refl _ _⟩
  | some a =>
    obtain ⟨b, off, spot⟩ := a
    have := hA2 _ rfl
    simp only at this
    subst this
    obtain ⟨i0, hi, hz0, hz1, hz2⟩ := info_parts info_sp
    refine (AnyE.slices_Clone Try.clone i0 (.agg #[.int .i64 0, .int .i64 0]) 2 16 hi hz0 hz1 hz2 rfl (by decide) Try.sizeOf34 b off n c (cellsOf l) w (by rw [cells_len, hn]) (by unfold maxLen; omega) (by omega) (fun j u hu => hA.cellsAt j u hu) cells_one).mono ?_
    rintro e w' ⟨v, he, ho, _, hb⟩
    exact ⟨v, he, by unfold OwnSp; rw [hn]; exact ho, hb⟩

/-- A valid span. -/
abbrev VSp := { s : Sp // 0 ≤ s.1 ∧ s.1 ≤ s.2 ∧ s.2 ≤ 65536 }
instance : Inhabited VSp := ⟨⟨(0, 0), by omega⟩⟩
def encV (s : VSp) : List Value := [.int .i64 s.1.1, .int .i64 s.1.2]
def cfV (s t : VSp) : Int := s.1.1 - t.1.1

set_option maxRecDepth 100000 in
set_option maxHeartbeats 400000 in
theorem cmp_any (s t : VSp) (W : World) : Calls Try.prog 67 #[.agg #[.int .i64 s.1.1, .int .i64 s.1.2], .agg #[.int .i64 t.1.1, .int .i64 t.1.2]] W fun e w' => e = .returned (.int .i64 (cfV s t)) ∧ ∃ q os', w' = Sort.grow (W.drewN q) os' := by
  obtain ⟨⟨a, b⟩, h1, h2, h3⟩ := s
  obtain ⟨⟨x, y⟩, h4, h5, h6⟩ := t
  simp only at h1 h2 h3 h4 h5 h6
  have HC : Hid (cfV ⟨(a, b), h1, h2, h3⟩ ⟨(x, y), h4, h5, h6⟩ = a - x) := rfl
  generalize cfV ⟨(a, b), h1, h2, h3⟩ ⟨(x, y), h4, h5, h6⟩ = r at *
  have hx : a ≤ 65536 := by omega
  have hy : x ≤ 65536 := by omega
  show Calls _ _ #[.agg #[.int .i64 a, .int .i64 b], .agg #[.int .i64 x, .int .i64 y]] W _
  go_enter Try.func67, Try.ntmps67
  go_wp2
  go_ret
  exact ⟨by rw [HC.out]; rfl, 0, _, by rw [Sort.alloc_eq_grow, Sort.alloc_eq_grow, Sort.grow_grow]; rfl⟩
theorem swo_sp : Sort.SWO (ltOf cfV) where
  irrefl x := by unfold ltOf cfV; simp
  trans x y z h1 h2 := by unfold ltOf cfV at *; simp at *; omega
  ntrans x y z h1 h2 := by unfold ltOf cfV at *; simp at *; omega
end Go.Proofs.Ytpafnakepgjmnaa
