/- Spans that are not empty: IndexFunc, DeleteFunc. -/
import Derived.Test.YtpafnakepgjmnaaSf
import Derived.Lib.SliceRun
namespace Go.Proofs.Ytpafnakepgjmnaa
open Go.RowKit Go.Lib Go.Shelf

/-- The index of the first empty span. -/
def IdxE (l : List Sp) (n : Nat) (w : World) (e : Ending) (w' : World) : Prop :=
  Below w.heap.size w w' ∧ (((∀ i, i < n → fr l i ≠ tt l i) ∧ e = .returned (.int .i64 (-1))) ∨ (∃ k : Nat, k < n ∧ (∀ i, i < k → fr l i ≠ tt l i) ∧ fr l k = tt l k ∧ e = .returned (.int .i64 k)))

set_option maxRecDepth 100000 in
set_option maxHeartbeats 2000000 in
theorem index_any (l : List Sp) (A : Option Addr) (n c : Nat) (w : World) (hn : Hid (l.length = n)) (hm : n ≤ 4611686018427387904) (hA : SpH w A l) :
    Calls Try.prog 69 #[.slice A n c, .func (.func 47) #[] #[]] w (IdxE l n w) := by
  go_enter Try.func69, Try.ntmps69
  go_wp2
  go_loopw [8] (fun i wr => ∃ k : Nat, k ≤ n ∧ i = .int .i64 k ∧ Hid (∀ i, i < k → fr l i ≠ tt l i) ∧ Below w.heap.size w wr) (fun i _ => n - (intOf i).toNat)
  case atStart => exact ⟨0, by omega, rfl, fun i hi => absurd hi (by omega), Below.refl _ _⟩
  case round =>
    obtain ⟨k, hk, rfl, HG, hb⟩ := hrel
    have HB := hid hb
    by_cases hlt : k < n
    · obtain ⟨b, off, rfl, hbl, hc⟩ := hA.at_ hn.out (by omega)
      obtain ⟨x, hx⟩ : ∃ x, fr l k = x := ⟨_, rfl⟩
      obtain ⟨y, hy⟩ : ∃ y, tt l k = y := ⟨_, rfl⟩
      have c0 := (hb.cell (p := ⟨b, off + k * 2, none⟩) hbl).trans (hc k hlt).1
      have c1 := (hb.cell (p := ⟨b, off + k * 2 + 1, none⟩) hbl).trans (hc k hlt).2
      rw [hx] at c0
      rw [hy] at c1
      have HX := hid hx
      have HY := hid hy
      clear hx hy hb hc
      go_wp2_with fail
      refine (isEmpty_any _ _ _).mono ?_
      rintro e w1 ⟨rfl, h1⟩
      have hb1 := HB.out.trans (h1.mono HB.out.size)
      clear h1
      cases hem : emB x y
      · have hne : x ≠ y := of_decide_eq_false hem
        have HGS : Hid (∀ i, i < k + 1 → fr l i ≠ tt l i) := fun i hi => by
          by_cases g : i = k
          · subst g; rw [HX.out, HY.out]; exact hne
          · exact HG.out i (by omega)
        clear hem hne
        go_wp2
        go_roundw
        case rel => exact ⟨k + 1, by omega, by go_num, HGS, hb1⟩
        case measure => simp [intOf]; omega
      · have HE : Hid (fr l k = tt l k) := by show _ = _; rw [HX.out, HY.out]; exact of_decide_eq_true hem
        clear hem
        go_wp2
        go_ret
        exact ⟨hb1, .inr ⟨k, hlt, HG.out, HE.out, rfl⟩⟩
    · go_wp2
      go_ret
      exact ⟨hb, .inl ⟨fun i hi => HG.out i (by omega), rfl⟩⟩

/-- The spans that are not empty. -/
def full (l : List Sp) : List Sp := l.filter fun s => !decide (s.1 = s.2)
theorem full_take {l : List Sp} {k : Nat} (h : k < l.length) : full (l.take (k + 1)) = full (l.take k) ++ (if fr l k = tt l k then [] else [(fr l k, tt l k)]) := by
  rw [take_succ_sp h]
  unfold full
  rw [List.filter_append, List.filter_cons, List.filter_nil]
  by_cases g : fr l k = tt l k <;> simp [g]
theorem full_all {l : List Sp} {k : Nat} (hk : k ≤ l.length) (h : ∀ i, i < k → fr l i ≠ tt l i) : full (l.take k) = l.take k := by
  induction k with
  | zero => rfl
  | succ k ih => rw [full_take (by omega), ih (by omega) (fun i hi => h i (by omega)), if_neg (h k (by omega)), take_succ_sp (by omega)]

/-- The row while the empty spans are struck: L holds what was kept of the first j, then whatever, then the rest. -/
structure KeptE (l L : List Sp) (i j : Nat) : Prop where
  len : L.length = l.length
  num : (full (l.take j)).length = i
  low : L.take i = full (l.take j)
  high : ∀ x, j ≤ x → x < l.length → L[x]? = l[x]?
  lt : i < j
theorem KeptE.start {l : List Sp} {k : Nat} (hk : k < l.length) (h : ∀ i, i < k → fr l i ≠ tt l i) (he : fr l k = tt l k) : KeptE l l k (k + 1) where
  len := rfl
  num := by rw [full_take hk, if_pos he, List.append_nil, full_all (by omega) h, List.length_take]; omega
  low := by rw [full_take hk, if_pos he, List.append_nil, full_all (by omega) h]
  high := fun _ _ _ => rfl
  lt := by omega
theorem KeptE.skip {l L : List Sp} {i j : Nat} (h : KeptE l L i j) (hj : j < l.length) (he : fr l j = tt l j) : KeptE l L i (j + 1) where
  len := h.len
  num := by rw [full_take hj, if_pos he, List.append_nil]; exact h.num
  low := by rw [full_take hj, if_pos he, List.append_nil]; exact h.low
  high := fun x hx hl => h.high x (by omega) hl
  lt := by have := h.lt; omega
theorem KeptE.keep {l L : List Sp} {i j : Nat} (h : KeptE l L i j) (hj : j < l.length) (he : fr l j ≠ tt l j) : KeptE l (L.set i (fr l j, tt l j)) (i + 1) (j + 1) where
  len := by rw [List.length_set]; exact h.len
  num := by rw [full_take hj, if_neg he, List.length_append, h.num]; rfl
  low := by
    have hl := h.lt
    have hL := h.len
    rw [full_take hj, if_neg he, ← h.low]
    rw [List.take_succ_eq_append_getElem (by rw [List.length_set]; omega), List.getElem_set_self, List.take_set_of_le (by omega)]
  high := fun x hx hl => by
    have := h.lt
    rw [List.getElem?_set_ne (by omega)]
    exact h.high x (by omega) hl
  lt := by have := h.lt; omega

theorem cells_set2 {l : List Sp} {i : Nat} (h : i < l.length) (x y : Int) : ((cellsOf l).set (i * 2) (.int .i64 x)).set (i * 2 + 1) (.int .i64 y) = cellsOf (l.set i (x, y)) := by
  induction l generalizing i with
  | nil => simp at h
  | cons s l ih =>
    cases i with
    | zero => rfl
    | succ i =>
      have := ih (i := i) (by simpa using h)
      rw [show (i + 1) * 2 = i * 2 + 2 by omega]
      simp only [cellsOf, List.set_cons_succ]
      rw [this]
section
variable {w w' : World} {base g n c : Nat} {l : List Sp}
theorem OwnSp.store (h : OwnSp w base (.slice (some ⟨g, 0, none⟩) n c) l) (hn : l.length = n) {i : Nat} (hi : i < n) (x y : Int) :
    OwnSp ((w.setCell ⟨g, i * 2, none⟩ (.int .i64 x)).setCell ⟨g, i * 2 + 1, none⟩ (.int .i64 y)) base (.slice (some ⟨g, 0, none⟩) n c) (l.set i (x, y)) := by
  unfold OwnSp at h ⊢
  rw [hn] at h
  rw [List.length_set, hn, ← cells_set2 (by omega)]
  exact ((h.stored (i * 2) (.int .i64 x)).1.stored (i * 2 + 1) (.int .i64 y)).1
theorem OwnSp.pre (h : OwnSp w base (.slice (some ⟨g, 0, none⟩) n c) l) (hn : l.length = n) {i : Nat} (hi : i ≤ n) : OwnSp w base (.slice (some ⟨g, 0, none⟩) i c) (l.take i) := by
  have h' := h
  unfold OwnSp at h' ⊢
  have e : (l.take i).length = i := by simp; omega
  rw [hn] at h'
  rw [e]
  refine ⟨by rw [cells_len, e], ?_⟩
  rcases h'.2 with ⟨h0, _⟩ | ⟨g', cap, cur, h1, h2, h3, h4, h5, h6, h7⟩
  · cases h0
  · cases h1
    refine .inr ⟨g, c, cur, rfl, h2, h3, by omega, h5, h6, ?_⟩
    have : cellsOf (l.take i) = (cellsOf l).take (i * 2) := by
      conv => rhs; rw [← List.take_append_drop i l, cells_append, List.take_append_of_le_length (by rw [cells_len, e]; exact Nat.le_refl _), List.take_of_length_le (by rw [cells_len, e]; exact Nat.le_refl _)]
    rw [this, ← h7, List.take_take, Nat.min_eq_left (by omega)]
theorem OwnSp.cellIn (h : OwnSp w base (.slice (some ⟨g, 0, none⟩) n c) l) (hn : l.length = n) {i : Nat} (hi : i < n) :
    w.cell? ⟨g, i * 2, none⟩ = some (.int .i64 (fr l i)) ∧ w.cell? ⟨g, i * 2 + 1, none⟩ = some (.int .i64 (tt l i)) := by
  have h' := h
  unfold OwnSp at h'
  rw [hn] at h'
  have := cells_at (l := l) (i := i) (by omega)
  exact ⟨(h'.cellAt (i * 2) (by omega)).trans this.1, (h'.cellAt (i * 2 + 1) (by omega)).trans this.2⟩
theorem OwnSp.frozenIn (h : OwnSp w base (.slice (some ⟨g, 0, none⟩) n c) l) (j : Nat) : w.frozen? ⟨g, j, none⟩ = false := by
  unfold OwnSp at h
  rcases h.2 with ⟨h0, _⟩ | ⟨g', cap, cur, h1, h2, h3, _⟩
  · cases h0
  · cases h1
    exact frozen_of_row w g j cur _ h3
theorem OwnSp.base_le (h : OwnSp w base (.slice (some ⟨g, 0, none⟩) n c) l) : base ≤ g ∧ g < w.heap.size ∧ n ≤ c := by
  unfold OwnSp at h
  rcases h.2 with ⟨h0, _⟩ | ⟨g', cap, cur, h1, h2, h3, h4, _⟩
  · cases h0
  · cases h1
    exact ⟨h2, (Array.getElem?_eq_some_iff.1 h3).1, by omega⟩
theorem OwnSp.above (h : OwnSp w base (.slice (some ⟨g, 0, none⟩) n c) l) (hn : l.length = n) (vs : List Value) {o : Nat} (ho : n * 2 ≤ o) : OwnSp (w.setCells g o vs) base (.slice (some ⟨g, 0, none⟩) n c) l := by
  induction vs generalizing w o with
  | nil => exact h
  | cons v r ih =>
    refine ih (w := w.setCell ⟨g, o, none⟩ v) ?_ (by omega)
    have h' := h
    unfold OwnSp at h' ⊢
    rw [hn] at h' ⊢
    have := (h'.stored o v).1
    rwa [List.set_eq_of_length_le (by rw [cells_len]; omega)] at this
theorem below_setCells {B : Nat} {w0 : World} (h : Below B w0 w) (hB : B ≤ g) (vs : List Value) (o : Nat) : Below B w0 (w.setCells g o vs) := by
  induction vs generalizing w o with
  | nil => exact h
  | cons v r ih => exact ih (w := w.setCell ⟨g, o, none⟩ v) (h.setCell (p := ⟨g, o, none⟩) hB v) _
end

theorem zeroCells2 (n : Nat) : (Builtin.zeroCells #[.int .i64 0, .int .i64 0] n).toList = List.replicate (n * 2) (.int .i64 0) := by
  apply List.ext_getElem
  · simp [Builtin.zeroCells]
  · intro i h1 h2
    simp only [Builtin.zeroCells, List.getElem_replicate, Array.getElem_toList]
    rcases Nat.mod_two_eq_zero_or_one i with h | h <;> simp [h]
theorem run_clear2 (w : World) (t e ty : TypeId) (ht : Try.prog.underlying t = some (.slice e)) (hv : ∀ w, (zeroValue e).run Try.prog w = .ok (.agg #[.int .i64 0, .int .i64 0]) w) (b o n c : Nat) (hn : 0 < n)
    (hc : ∀ j, j < n * 2 → (w.cell? ⟨b, o + j, none⟩).isSome = true) (hf : ∀ j, j < n * 2 → w.frozen? ⟨b, o + j, none⟩ = false) :
    (Builtin.clear_ #[t] ty #[.slice (some ⟨b, o, none⟩) n c]).run Try.prog w = .ok (.tuple #[]) (w.setCells b o (List.replicate (n * 2) (.int .i64 0))) := by
  have hst := run_storeCells_cells (P := Try.prog) b o (List.replicate (n * 2) (.int .i64 0)) 0 w (by simpa using hc) (by simpa using hf) (by intro v hv'; rw [List.eq_of_mem_replicate hv']; rfl)
  simp only [Nat.add_zero] at hst
  obtain ⟨m, rfl⟩ : ∃ m, n = m + 1 := ⟨n - 1, by omega⟩
  simp [Builtin.clear_, run_underlying ht, hv, Value.cells, zeroCells2, hst]
end Go.Proofs.Ytpafnakepgjmnaa
