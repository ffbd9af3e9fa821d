/- The comparison of two lists of limbs. Conditions: both are in memory. -/
import Derived.Test.YtgnidjhfiagfnaaWa
import Derived.Test.YtgnidjhfiagfnaaWc
namespace Go.Proofs.Ytgnidjhfiagfnaa
open Go.RowKit Go.Shelf
attribute [local go_sem] Oper.semAt_some

/-- A block of cells, none of them frozen. -/
def Blk (w : World) (g : Nat) (t : TypeId) (cs : Array Value) : Prop := w.heap[g]? = some (.cells cs t (0, 0))

section
variable {w w' : World} {g : Nat} {t : TypeId} {cs : Array Value}
theorem Blk.lt (h : Blk w g t cs) : g < w.heap.size := (Array.getElem?_eq_some_iff.1 h).1
theorem Blk.cell (h : Blk w g t cs) (i : Nat) : w.cell? ⟨g, i, none⟩ = cs[i]? := cell_of_row w g i cs t (0, 0) h
theorem Blk.frozen (h : Blk w g t cs) (i : Nat) : w.frozen? ⟨g, i, none⟩ = false := by
  unfold Blk at h
  simp [World.frozen?, h]
theorem Blk.new (w : World) (t : TypeId) (cs : Array Value) : Blk (w.alloc (.cells cs t)) w.heap.size t cs := heap_alloc_new w _
theorem Blk.alloc (h : Blk w g t cs) (o : Obj) : Blk (w.alloc o) g t cs := (Below.heap_alloc w o g h.lt).trans h
theorem Blk.set_ (h : Blk w g t cs) (i : Nat) (u : Value) : Blk (w.setCell ⟨g, i, none⟩ u) g t (cs.setIfInBounds i u) := by
  unfold Blk at h ⊢
  simp [World.setCell, Array.getElem?_modify, h]
theorem Blk.far (h : Blk w g t cs) {p : Addr} (hp : g ≠ p.block) (u : Value) : Blk (w.setCell p u) g t cs := (Below.heap_setCell w p u g hp).trans h
theorem Blk.below {B : Nat} (h : Blk w g t cs) (hb : Below B w w') (hg : g < B) : Blk w' g t cs := (hb.block g hg).trans h
theorem Blk.grown {row : Option Nat} (h : Blk w g t cs) (hb : w.grownBy w' row) (hg : some g ≠ row) : Blk w' g t cs := (hb.block g h.lt hg).trans h
theorem Blk.drew (h : Blk w g t cs) : Blk w.drew g t cs := h
theorem Blk.drewN (h : Blk w g t cs) (n : Nat) : Blk (w.drewN n) g t cs := h
/-- A block of cells is not what an iterator's book-keeping turns. -/
theorem Blk.own {B : Nat} {row : Option Nat} (h : Blk w g t cs) (hg : w.grownBy w' row) (hr : ∀ r, row = some r → B ≤ r ∧ ∃ o : Obj, w.heap[r]? = some o ∧ o.isCells = false) : Blk w' g t cs :=
  h.grown hg (fun e => by
    obtain ⟨_, o, ho, hc⟩ := hr g e.symm
    unfold Blk at h
    rw [h] at ho
    cases ho
    simp [Obj.isCells] at hc)
theorem Blk.put (h : Blk w g t cs) {D : Nat} {o o' : Obj} (hd : w.heap[D]? = some o) (ho : o.isCells = false) : Blk (w.putObj D o') g t cs :=
  h.own (B := 0) (grownBy_putObj' w D o') (fun r e => by cases e; exact ⟨Nat.zero_le _, o, hd, ho⟩)
end

theorem below_own {n B : Nat} {w W W' : World} {row : Option Nat} (h : Below n w W) (hn : n ≤ w.heap.size) (hB : n ≤ B) (hg : W.grownBy W' row) (hr : ∀ r, row = some r → B ≤ r ∧ ∃ o : Obj, W.heap[r]? = some o ∧ o.isCells = false) : Below n w W' :=
  h.grown hg (Nat.le_trans hn h.size) (fun k e => Nat.le_trans hB (hr k e).1)
theorem below_put {n : Nat} {w W : World} (h : Below n w W) (hn : n ≤ w.heap.size) {D : Nat} (hD : n ≤ D) (o' : Obj) : Below n w (W.putObj D o') :=
  h.grown (grownBy_putObj' W D o') (Nat.le_trans hn h.size) (fun k e => by cases e; exact hD)

theorem At.cells {w : World} {A : Option Addr} {l : List Nat} (h : At w A l) (hl : 0 < l.length) : ∃ b off, A = some ⟨b, off, none⟩ ∧ b < w.heap.size ∧ ∀ j, j < l.length → w.cell? ⟨b, off + j, none⟩ = some (.int .u16 (nth l j)) :=
  h (by intro e; subst e; simp at hl)

theorem cmpTop_succ_eq {a b : List Nat} {m : Nat} (h : nth a m = nth b m) : cmpTop a b (m + 1) = cmpTop a b m := by
  conv => lhs; unfold cmpTop
  rw [if_pos h]
theorem cmpTop_succ_lt {a b : List Nat} {m : Nat} (h : nth a m < nth b m) : cmpTop a b (m + 1) = -1 := by
  conv => lhs; unfold cmpTop
  rw [if_neg (by omega), if_pos h]
theorem cmpTop_succ_gt {a b : List Nat} {m : Nat} (h : nth b m < nth a m) : cmpTop a b (m + 1) = 1 := by
  conv => lhs; unfold cmpTop
  rw [if_neg (by omega), if_neg (by omega)]

set_option maxRecDepth 100000 in
set_option maxHeartbeats 400000 in
theorem compare_lt (A B : Option Addr) (n m ca cb : Nat) (w : World) (_hm : m ≤ 4611686018427387904) (h : n < m) :
    Calls Try.prog 62 #[.slice A n ca, .slice B m cb] w fun e w' => e = .returned (.int .i64 (-1)) ∧ Below w.heap.size w w' := by
  have h1 : ((n : Int) != (m : Int)) = true := by rw [bne_iff_ne]; omega
  go_enter Try.func62, Try.ntmps62
  go_wp2
  exact bodyPost_ret (v := .int .i64 (-1)) (by simp [results, Try.results62, go_sem]) rfl ⟨rfl, (by repeat (first | exact Below.refl _ _ | assumption | refine Below.alloc ?_ (by first | (simp; done) | (simp; omega) | omega) _ | refine Below.setCell ?_ (by first | (simp; done) | (simp; omega) | omega) _ | refine Below.drew ?_))⟩

set_option maxRecDepth 100000 in
set_option maxHeartbeats 400000 in
theorem compare_gt (A B : Option Addr) (n m ca cb : Nat) (w : World) (_hm : n ≤ 4611686018427387904) (h : m < n) :
    Calls Try.prog 62 #[.slice A n ca, .slice B m cb] w fun e w' => e = .returned (.int .i64 1) ∧ Below w.heap.size w w' := by
  have h1 : ((n : Int) != (m : Int)) = true := by rw [bne_iff_ne]; omega
  have h2 : ¬ (n : Int) < m := by omega
  go_enter Try.func62, Try.ntmps62
  go_wp2
  exact bodyPost_ret (v := .int .i64 1) (by simp [results, Try.results62, go_sem]) rfl ⟨rfl, (by repeat (first | exact Below.refl _ _ | assumption | refine Below.alloc ?_ (by first | (simp; done) | (simp; omega) | omega) _ | refine Below.setCell ?_ (by first | (simp; done) | (simp; omega) | omega) _ | refine Below.drew ?_))⟩

set_option maxRecDepth 100000 in
set_option maxHeartbeats 2000000 in
theorem compare_same (la lb : List Nat) (A B : Option Addr) (n ca cb : Nat) (w : World) (hna : Hid (la.length = n)) (hnb : Hid (lb.length = n)) (hm : n ≤ 4611686018427387904) (hla : Limbs la) (hlb : Limbs lb) (hA : At w A la) (hB : At w B lb) :
    Calls Try.prog 62 #[.slice A n ca, .slice B n cb] w fun e w' => e = .returned (.int .i64 (cmpTop la lb n)) ∧ Below w.heap.size w w' := by
  refine (callsIn_wide (n := 9)).1 ?_
  refine callsIn_of_wp_marks Try.func62 rfl trivial ?_ rfl
  simp only [Try.ntmps62, List.size_toArray, List.length_cons, List.length_nil, Nat.reduceAdd, Nat.reduceSub, Array.replicate_succ, Array.replicate_zero, List.push_toArray, List.append_toArray, List.nil_append, List.cons_append]
  gi_wp2_with (refine ⟨trivial, ?_⟩; gi_at_call 77; refine (callsIn_wide.2 (downward_any _ _ _ _)).mono ?_; rintro e w' ⟨rfl, rfl⟩)
  have hAd : 0 < n → ∃ b off, A = some ⟨b, off, none⟩ ∧ b < w.heap.size ∧ ∀ j, j < n → w.cell? ⟨b, off + j, none⟩ = some (.int .u16 (nth la j)) := fun h => by
    have := hA.cells (by rw [hna.out]; exact h)
    rwa [hna.out] at this
  have hBd : 0 < n → ∃ b off, B = some ⟨b, off, none⟩ ∧ b < w.heap.size ∧ ∀ j, j < n → w.cell? ⟨b, off + j, none⟩ = some (.int .u16 (nth lb j)) := fun h => by
    have := hB.cells (by rw [hnb.out]; exact h)
    rwa [hnb.out] at this
  obtain ⟨b, off, hAe, hbl, hAc⟩ : ∃ b off, (0 < n → A = some ⟨b, off, none⟩) ∧ (0 < n → b < w.heap.size) ∧ ∀ j, j < n → w.cell? ⟨b, off + j, none⟩ = some (.int .u16 (nth la j)) := by
    by_cases h : 0 < n
    · obtain ⟨b, off, h1, h2, h3⟩ := hAd h
      exact ⟨b, off, fun _ => h1, fun _ => h2, h3⟩
    · exact ⟨0, 0, fun h' => absurd h' h, fun h' => absurd h' h, fun j hj => by omega⟩
  refine wpIn_down (by omega) (w.heap.size + 2) b off n ca A rfl hm hAe (nth la)
    (fun k W => Hid (cmpTop la lb n = cmpTop la lb k) ∧ Below w.heap.size w W ∧ Blk W w.heap.size 24 #[.slice B n cb] ∧ Blk W (w.heap.size + 1) 3 #[.int .i64 0] ∧ Blk W (w.heap.size + 2) 24 #[.slice A n ca])
    (fun _ W => Below w.heap.size w W ∧ Blk W (w.heap.size + 1) 3 #[.int .i64 (cmpTop la lb n)])
    (fun s W W' row h hg hr => ⟨h.1, below_own h.2.1 (Nat.le_refl _) (by simp; omega) hg hr, h.2.2.1.own hg hr, h.2.2.2.1.own hg hr, h.2.2.2.2.own hg hr⟩)
    (fun s W W' row h hg hr => ⟨below_own h.1 (Nat.le_refl _) (by simp; omega) hg hr, h.2.own hg hr⟩)
    (fun k W h => (h.2.2.2.2.cell 0).trans rfl)
    (fun k W hk h => (h.2.1.cell (p := ⟨b, off + k, none⟩) (hbl (by omega))).trans (hAc k hk))
    ⟨rfl, (by repeat (first | exact Below.refl _ _ | assumption | refine Below.alloc ?_ (by first | (simp; done) | (simp; omega) | omega) _ | refine Below.setCell ?_ (by first | (simp; done) | (simp; omega) | omega) _ | refine Below.drew ?_)), ?i1, ?i2, ?i3⟩
    ?a1 ?assign ?body ?done ?stop
  case i1 => exact ((Blk.new w 24 #[.slice B n cb]).alloc _).alloc _
  case i2 => have := (Blk.new (w.alloc (.cells #[.slice B n cb] 24)) 3 #[.int .i64 0]).alloc (.cells #[.slice A n ca] 24); simpa using this
  case i3 => have := (Blk.new ((w.alloc (.cells #[.slice B n cb] 24)).alloc (.cells #[.int .i64 0] 3)) 24 #[.slice A n ca]); simpa using this
  case assign =>
    intro l k W K hK
    gi_wp2
    exact hK
  case body =>
    rintro l k W hk ⟨HC, hb, q1, q2, q3⟩
    obtain ⟨b2, off2, rfl, hbl2, hBc⟩ := hBd (by omega)
    have c1 : W.cell? ⟨w.heap.size, 0, none⟩ = some (.slice (some ⟨b2, off2, none⟩) n cb) := (q1.cell 0).trans rfl
    have c2 : W.cell? ⟨w.heap.size + 1, 0, none⟩ = some (.int .i64 0) := (q2.cell 0).trans rfl
    have f2 := q2.frozen 0
    have c3 : W.cell? ⟨b2, off2 + k, none⟩ = some (.int .u16 (nth lb k)) := (hb.cell (p := ⟨b2, off2 + k, none⟩) hbl2).trans (hBc k hk)
    have x1 := nth_lt hla k
    have x2 := nth_lt hlb k
    clear hBd hAd hBc hAc hB hA
    rcases Nat.lt_trichotomy (nth la k) (nth lb k) with e | e | e
    · have e1 : (((nth la k : Nat) : Int) != (nth lb k : Int)) = true := by rw [bne_iff_ne]; omega
      have hz : Hid (cmpTop la lb n = -1) := by rw [HC.out]; exact cmpTop_succ_lt e
      gi_wp2
      exact ⟨(KeepsOthers.setCell _ _ _).from _, hb.setCell (p := ⟨w.heap.size + 1, 0, none⟩) (by simp) _, by rw [hz.out]; exact q2.set_ 0 _⟩
    · have e1 : (((nth la k : Nat) : Int) != (nth lb k : Int)) = false := by simp [e]
      have hz : Hid (cmpTop la lb n = cmpTop la lb k) := by rw [HC.out]; exact cmpTop_succ_eq e
      clear e
      gi_wp2
      exact ⟨KeepsFrom.refl _ _, hz, hb, q1, q2, q3⟩
    · have e1 : (((nth la k : Nat) : Int) != (nth lb k : Int)) = true := by rw [bne_iff_ne]; omega
      have e2 : ¬ ((nth la k : Nat) : Int) < (nth lb k : Int) := by omega
      have hz : Hid (cmpTop la lb n = 1) := by rw [HC.out]; exact cmpTop_succ_gt e
      gi_wp2
      exact ⟨(KeepsOthers.setCell _ _ _).from _, hb.setCell (p := ⟨w.heap.size + 1, 0, none⟩) (by simp) _, by rw [hz.out]; exact q2.set_ 0 _⟩
  case done =>
    rintro D W hD ⟨HC, hb, q1, q2, q3⟩ hK
    have c2 : W.cell? ⟨w.heap.size + 1, 0, none⟩ = some (.int .i64 0) := (q2.cell 0).trans rfl
    have f2 := q2.frozen 0
    have hD2 : w.heap.size ≤ D := by simp at hD; omega
    clear hBd hAd hAc hB hA
    have HK : Hid (W.heap[D]? = some (Obj.deferred (some []))) := hK
    clear hK
    gi_wp2
    have k2 := (KeepsOthers.setCell W ⟨w.heap.size + 1, 0, none⟩ (.int .i64 0)).same D _ HK.out rfl
    refine ⟨by simp, .inl ⟨_, _, rfl, run_takeDeferred k2, ?_⟩⟩
    have q := ((q2.set_ 0 (.int .i64 0)).put (o' := .deferred none) k2 rfl).cell 0
    refine ⟨.int .i64 0, by simp [results, Try.f62, go_sem, q], ret_int HC.out.symm, ?_⟩
    exact below_put (hb.setCell (p := ⟨w.heap.size + 1, 0, none⟩) (by simp) _) (Nat.le_refl _) hD2 _
  case stop =>
    rintro D W hD ⟨hb, q2⟩ hK
    have hD2 : w.heap.size ≤ D := by simp at hD; omega
    clear hBd hAd hAc hB hA
    have HK : Hid (W.heap[D]? = some (Obj.deferred (some []))) := hK
    clear hK
    gi_wp2
    refine ⟨by simp, .inl ⟨_, _, rfl, run_takeDeferred HK.out, ?_⟩⟩
    have q := (q2.put (o' := .deferred none) HK.out rfl).cell 0
    refine ⟨.int .i64 (cmpTop la lb n), by simp [results, Try.f62, go_sem, q], rfl, ?_⟩
    exact below_put hb (Nat.le_refl _) hD2 _
end Go.Proofs.Ytgnidjhfiagfnaa
