/- Long division: plain facts, takeTimes, giveBack, divideStep, shiftUp. Conditions: the limbs lie in rows of their own. -/
import Derived.Test.YtgnidjhfiagfnaaXq
import Derived.Deep.QuietTactic
import Derived.BigQuiet
namespace Go.Proofs.Ytgnidjhfiagfnaa
open Go.RowKit

theorem val_take_succ' (l : List Nat) (o k : Nat) : val ((l.drop o).take (k + 1)) = val ((l.drop o).take k) + 65536 ^ k * nth l (o + k) := by
  by_cases h : k < (l.drop o).length
  · rw [take_snoc_getD _ h, val_snoc, nth_drop, List.length_take, Nat.min_eq_left (by omega)]
  · rw [List.take_of_length_le (by omega), List.take_of_length_le (by omega), nth_ge (by rw [List.length_drop] at h; omega)]
    omega
theorem take_set_same (l : List Nat) (o k x : Nat) (h : o + k < l.length) : ((l.set (o + k) x).drop o).take k = (l.drop o).take k := by
  refine list_ext (by simp) (fun j hj => ?_)
  have hj' : j < k := by simp at hj; omega
  rw [nth_take _ hj', nth_take _ hj', nth_drop, nth_drop, nth_set _ _ _ _ h, if_neg (by omega)]
theorem seg_set (l : List Nat) (o k x : Nat) (h : o + k < l.length) : val (((l.set (o + k) x).drop o).take (k + 1)) = val ((l.drop o).take k) + 65536 ^ k * x := by
  rw [val_take_succ', take_set_same l o k x h, nth_set _ _ _ _ h, if_pos rfl]
theorem limbs_set {l : List Nat} (h : Limbs l) (j x : Nat) (hx : x < 65536) : Limbs (l.set j x) := by
  intro y hy
  rcases List.mem_or_eq_of_mem_set hy with h1 | h1
  · exact h _ h1
  · omega

/-- The limbs from o on, k of them, were taken: the row ys came of R by subtracting dg times D; cy is carried. -/
structure Took (R D : List Nat) (dg : Int) (o k : Nat) (cy : Int) (ys : List Nat) : Prop where
  len : ys.length = R.length
  limbs : Limbs ys
  same : ∀ j, (j < o ∨ o + k ≤ j) → nth ys j = nth R j
  eq : (val ((ys.drop o).take k) : Int) + 65536 ^ k * cy = val ((R.drop o).take k) - dg * val (D.take k)

theorem Took.start (R D : List Nat) (dg : Int) (o : Nat) (hR : Limbs R) : Took R D dg o 0 0 R := ⟨rfl, hR, fun _ _ => rfl, by simp [val]⟩
theorem Took.step {R D : List Nat} {dg : Int} {o k : Nat} {cy : Int} {ys : List Nat} (h : Took R D dg o k cy ys) (hk : o + k < R.length) (x : Nat) (c' : Int) (hc : cy + (nth R (o + k) - dg * nth D k) = c') (hx : (x : Int) = c' % 65536) :
    Took R D dg o (k + 1) (c' / 65536) (ys.set (o + k) x) := by
  refine ⟨by rw [List.length_set]; exact h.len, limbs_set h.limbs _ _ (by omega), fun j hj => ?_, ?_⟩
  · rw [nth_set _ _ _ _ (by rw [h.len]; exact hk), if_neg (by omega)]
    exact h.same j (by omega)
  · rw [seg_set _ _ _ _ (by rw [h.len]; exact hk), val_take_succ' R o k]
    have e : val (D.take (k + 1)) = val (D.take k) + 65536 ^ k * nth D k := by
      have := val_take_succ' D 0 k
      simpa using this
    rw [e]
    have h1 := h.eq
    have h2 := Int.emod_add_mul_ediv c' 65536
    rw [← hx] at h2
    rw [Int.pow_succ]
    simp only [Int.natCast_add, Int.natCast_mul, Int.natCast_pow]
    have e5 : ((65536 : Nat) : Int) = 65536 := rfl
    rw [e5]
    generalize ((65536 : Int) ^ k) = p at *
    generalize (nth R (o + k) : Int) = r at *
    generalize (nth D k : Int) = d at *
    generalize (val ((ys.drop o).take k) : Int) = v at *
    generalize (val ((R.drop o).take k) : Int) = vr at *
    generalize (val (D.take k) : Int) = vd at *
    generalize c' / 65536 = q at *
    have h3 : v + p * x + p * 65536 * q = v + p * (x + 65536 * q) := by grind
    rw [h3, h2, ← hc]
    grind
/-- The last limb: it takes the carry alone; what is lacking is one unit above it. -/
theorem Took.last {R D : List Nat} {dg : Int} {o m : Nat} {cy : Int} {ys : List Nat} (h : Took R D dg o m cy ys) (hk : o + m < R.length) (hD : D.length = m) (x : Nat) (c' : Int) (hc : cy + nth R (o + m) = c') (hx : (x : Int) = c' % 65536) :
    Took R D dg o (m + 1) (c' / 65536) (ys.set (o + m) x) := by
  refine h.step hk x c' ?_ hx
  rw [nth_ge (l := D) (by omega)]
  rw [← hc]
  simp
theorem Took.sign {R D : List Nat} {dg : Int} {o m : Nat} {cy : Int} {ys : List Nat} (h : Took R D dg o m cy ys) : (cy < 0 ↔ (val ((R.drop o).take m) : Int) - dg * val (D.take m) < 0) ∧ (0 ≤ cy ↔ (0 : Int) ≤ val ((R.drop o).take m) - dg * val (D.take m)) := by
  rw [← h.eq]
  have h1 : val ((ys.drop o).take m) < 65536 ^ m := by
    refine Nat.lt_of_lt_of_le (val_lt (limbs_take (limbs_drop h.limbs o) m)) (Nat.pow_le_pow_right (by omega) (List.length_take_le _ _))
  have h2 : (val ((ys.drop o).take m) : Int) < 65536 ^ m := by
    have := Int.ofNat_lt.2 h1
    simpa using this
  have hp : (0 : Int) < 65536 ^ m := Int.pow_pos (by omega)
  have hv : (0 : Int) ≤ val ((ys.drop o).take m) := by omega
  generalize (val ((ys.drop o).take m) : Int) = v at *
  generalize (65536 : Int) ^ m = p at *
  constructor
  · constructor
    · intro hc
      have : p * cy ≤ p * (-1) := Int.mul_le_mul_of_nonneg_left (by omega) (by omega)
      omega
    · intro hc
      rcases Int.lt_or_le cy 0 with h | h
      · exact h
      · have := Int.mul_nonneg (Int.le_of_lt hp) h
        omega
  · constructor
    · intro hc
      have := Int.mul_nonneg (Int.le_of_lt hp) hc
      omega
    · intro hc
      rcases Int.lt_or_le cy 0 with h | h
      · have : p * cy ≤ p * (-1) := Int.mul_le_mul_of_nonneg_left (by omega) (by omega)
        omega
      · exact h


set_option maxRecDepth 100000 in
set_option maxHeartbeats 2000000 in
theorem takeTimes_any (base g N c o m cr cd bD oD dg : Nat) (R D : List Nat) (w : World) (HR : Hid (R.length = N ∧ Limbs R ∧ D.length = m ∧ Limbs D)) (ho : o + m + 1 ≤ N) (hN : N ≤ 10000)
    (own : w.ownsRow base 22 1 (.slice (some ⟨g, 0, none⟩) N c) N (vals R)) (hg : g < w.heap.size)
    (HA : Hid (∀ j, j < m → w.cell? ⟨bD, oD + j, none⟩ = some (.int .u16 (nth D j)))) (hne : bD ≠ g) (hbD : bD < w.heap.size) (hdg : dg ≤ 65536) :
    Calls Try.prog 89 #[.slice (some ⟨g, o, none⟩) (m + 1 : Nat) cr, .slice (some ⟨bD, oD, none⟩) m cd, .int .i64 dg] w fun e w' =>
      ∃ (c' : Int) (ys : List Nat), e = .returned (.bool (decide (c' < 0))) ∧ Took R D dg o (m + 1) (c' / 65536) ys ∧ (c' < 0 ↔ (val ((R.drop o).take (m + 1)) : Int) - dg * val D < 0) ∧ w'.ownsRow base 22 1 (.slice (some ⟨g, 0, none⟩) N c) N (vals ys) ∧ w.grownBy w' (some g) := by
  go_enter Try.func89, Try.ntmps89
  go_wp2
  go_loopw [7, 12] (fun cc i wr => ∃ (k : Nat) (cy : Int) (ys : List Nat), k ≤ m ∧ i = .int .i64 k ∧ cc = .int .i64 cy ∧ -65536 ≤ cy ∧ cy ≤ 0 ∧ Hid (Took R D dg o k cy ys) ∧ wr.ownsRow base 22 1 (.slice (some ⟨g, 0, none⟩) N c) N (vals ys) ∧ w.grownBy wr (some g)) (fun _ i _ => m - (intOf i).toNat)
  case atStart => exact ⟨0, 0, R, by omega, rfl, rfl, by omega, by omega, Took.start R D dg o HR.out.2.1, own, only_refl w g⟩
  case round =>
    obtain ⟨k, cy, ys, hk, rfl, rfl, h1, h2, HT, o1, hgr⟩ := hrel
    by_cases hlt : k < m
    · have hki : (k : Int) < (m : Int) := by omega
      have xD := hgr.cell (HA.out k hlt) (by simpa using hne)
      have xR := (o1.cellAt (o + k) (by omega)).trans (vals_at (by rw [HT.out.len, HR.out.1]; omega))
      rw [HT.out.same (o + k) (by omega)] at xR
      have fR := o1.frozenAt (o + k)
      have uD := nth_lt HR.out.2.2.2 k
      have uR := nth_lt HR.out.2.1 (o + k)
      obtain ⟨d, hd⟩ : ∃ d, nth D k = d := ⟨_, rfl⟩
      obtain ⟨r, hr⟩ : ∃ r, nth R (o + k) = r := ⟨_, rfl⟩
      rw [hd] at xD uD
      rw [hr] at xR uR
      have hp : dg * d ≤ 65536 * 65535 := Nat.mul_le_mul hdg (by omega)
      have hp1 : (dg : Int) * d ≤ 4294901760 := by have := Int.ofNat_le.2 hp; simpa using this
      have hp0 : 0 ≤ (dg : Int) * d := Int.mul_nonneg (by omega) (by omega)
      have hkR : o + k < R.length := by rw [HR.out.1]; omega
      obtain ⟨c', hc'⟩ : ∃ c', cy + ((r : Int) - dg * d) = c' := ⟨_, rfl⟩
      have hb1 : -4294967296 ≤ c' := by omega
      have hb2 : c' ≤ 65535 := by omega
      obtain ⟨x, hx⟩ : ∃ x : Nat, (x : Int) = c' % 65536 := ⟨(c' % 65536).toNat, by omega⟩
      have HS : Hid (Took R D dg o (k + 1) (c' / 65536) (ys.set (o + k) x)) := HT.out.step hkR x c' (by rw [hr, hd]; exact hc') hx
      have HX : Hid ((x : Int) = c' % 65536) := hx
      have HC : Hid (cy + ((r : Int) - dg * d) = c') := hc'
      have own2 := (o1.stored (o + k) (.int .u16 (x : Int))).1
      rw [vals_set] at own2
      have gr2 := only_setCell hgr (p := ⟨g, o + k, none⟩) (.inl rfl) (.int .u16 (x : Int))
      have OW : Hid ((wr.setCell ⟨g, o + k, none⟩ (.int .u16 (x : Int))).ownsRow base 22 1 (.slice (some ⟨g, 0, none⟩) N c) N (vals (ys.set (o + k) x)) ∧ w.grownBy (wr.setCell ⟨g, o + k, none⟩ (.int .u16 (x : Int))) (some g)) := ⟨own2, gr2⟩
      clear hd hr hx hc' own2 gr2 hp hkR o1 hgr own HT
      go_wp2
      go_roundw
      case rel =>
        rw [HC.out, wrap_u16, ← HX.out]
        exact ⟨k + 1, c' / 65536, _, by omega, by go_num, rfl, by omega, by omega, HS, OW.out.1, OW.out.2⟩
      case measure => simp [intOf]; omega
    · obtain rfl : k = m := by omega
      have xR := (o1.cellAt (o + k) (by omega)).trans (vals_at (by rw [HT.out.len, HR.out.1]; omega))
      rw [HT.out.same (o + k) (by omega)] at xR
      have fR := o1.frozenAt (o + k)
      have uR := nth_lt HR.out.2.1 (o + k)
      obtain ⟨r, hr⟩ : ∃ r, nth R (o + k) = r := ⟨_, rfl⟩
      rw [hr] at xR uR
      have hkR : o + k < R.length := by rw [HR.out.1]; omega
      obtain ⟨c', hc'⟩ : ∃ c', cy + (r : Int) = c' := ⟨_, rfl⟩
      have hb1 : -65536 ≤ c' := by omega
      have hb2 : c' ≤ 65535 := by omega
      obtain ⟨x, hx⟩ : ∃ x : Nat, (x : Int) = c' % 65536 := ⟨(c' % 65536).toNat, by omega⟩
      have hS := HT.out.last hkR HR.out.2.2.1 x c' (by rw [hr]; exact hc') hx
      have hsg := hS.sign
      have hD : D.take (k + 1) = D := List.take_of_length_le (by rw [HR.out.2.2.1]; omega)
      rw [hD] at hsg
      have HG : Hid (c' < 0 ↔ (val ((R.drop o).take (k + 1)) : Int) - dg * val D < 0) := by
        refine Iff.trans ?_ hsg.1
        omega
      have HS : Hid (Took R D dg o (k + 1) (c' / 65536) (ys.set (o + k) x)) := hS
      have HX : Hid ((x : Int) = c' % 65536) := hx
      have HC : Hid (cy + (r : Int) = c') := hc'
      have own2 := (o1.stored (o + k) (.int .u16 (x : Int))).1
      rw [vals_set] at own2
      have gr2 := only_setCell hgr (p := ⟨g, o + k, none⟩) (.inl rfl) (.int .u16 (x : Int))
      have OW : Hid ((wr.setCell ⟨g, o + k, none⟩ (.int .u16 (x : Int))).ownsRow base 22 1 (.slice (some ⟨g, 0, none⟩) N c) N (vals (ys.set (o + k) x)) ∧ w.grownBy (wr.setCell ⟨g, o + k, none⟩ (.int .u16 (x : Int))) (some g)) := ⟨own2, gr2⟩
      clear hr hx hc' own2 gr2 hkR o1 hgr own HT hS hsg hD
      go_wp2
      go_ret
      rw [HC.out, wrap_u16, ← HX.out]
      exact ⟨c', _, rfl, HS.out, HG.out, OW.out.1, OW.out.2⟩

set_option maxRecDepth 100000 in
set_option maxHeartbeats 2000000 in
theorem giveBack_any (base g N c o m cr cd bD oD : Nat) (R D : List Nat) (w : World) (HR : Hid (R.length = N ∧ Limbs R ∧ D.length = m ∧ Limbs D)) (ho : o + m + 1 ≤ N) (hN : N ≤ 10000)
    (own : w.ownsRow base 22 1 (.slice (some ⟨g, 0, none⟩) N c) N (vals R)) (hg : g < w.heap.size)
    (HA : Hid (∀ j, j < m → w.cell? ⟨bD, oD + j, none⟩ = some (.int .u16 (nth D j)))) (hne : bD ≠ g) (hbD : bD < w.heap.size) :
    Calls Try.prog 90 #[.slice (some ⟨g, o, none⟩) (m + 1 : Nat) cr, .slice (some ⟨bD, oD, none⟩) m cd] w fun e w' =>
      ∃ (c' : Int) (ys : List Nat), e = .returned (.tuple #[]) ∧ Took R D (-1) o (m + 1) (c' / 65536) ys ∧ w'.ownsRow base 22 1 (.slice (some ⟨g, 0, none⟩) N c) N (vals ys) ∧ w.grownBy w' (some g) := by
  go_enter Try.func90, Try.ntmps90
  go_wp2
  go_loopw [4, 9] (fun cc i wr => ∃ (k : Nat) (cy : Int) (ys : List Nat), k ≤ m ∧ i = .int .i64 k ∧ cc = .int .i64 cy ∧ 0 ≤ cy ∧ cy ≤ 1 ∧ Hid (Took R D (-1) o k cy ys) ∧ wr.ownsRow base 22 1 (.slice (some ⟨g, 0, none⟩) N c) N (vals ys) ∧ w.grownBy wr (some g)) (fun _ i _ => m - (intOf i).toNat)
  case atStart => exact ⟨0, 0, R, by omega, rfl, rfl, by omega, by omega, Took.start R D (-1) o HR.out.2.1, own, only_refl w g⟩
  case round =>
    obtain ⟨k, cy, ys, hk, rfl, rfl, h1, h2, HT, o1, hgr⟩ := hrel
    by_cases hlt : k < m
    · have hki : (k : Int) < (m : Int) := by omega
      have xD := hgr.cell (HA.out k hlt) (by simpa using hne)
      have xR := (o1.cellAt (o + k) (by omega)).trans (vals_at (by rw [HT.out.len, HR.out.1]; omega))
      rw [HT.out.same (o + k) (by omega)] at xR
      have fR := o1.frozenAt (o + k)
      have uD := nth_lt HR.out.2.2.2 k
      have uR := nth_lt HR.out.2.1 (o + k)
      obtain ⟨d, hd⟩ : ∃ d, nth D k = d := ⟨_, rfl⟩
      obtain ⟨r, hr⟩ : ∃ r, nth R (o + k) = r := ⟨_, rfl⟩
      rw [hd] at xD uD
      rw [hr] at xR uR
      have hkR : o + k < R.length := by rw [HR.out.1]; omega
      obtain ⟨c', hc'⟩ : ∃ c', cy + ((r : Int) + d) = c' := ⟨_, rfl⟩
      have hb1 : 0 ≤ c' := by omega
      have hb2 : c' ≤ 131071 := by omega
      obtain ⟨x, hx⟩ : ∃ x : Nat, (x : Int) = c' % 65536 := ⟨(c' % 65536).toNat, by omega⟩
      have HS : Hid (Took R D (-1) o (k + 1) (c' / 65536) (ys.set (o + k) x)) := HT.out.step hkR x c' (by rw [hr, hd]; omega) hx
      have HX : Hid ((x : Int) = c' % 65536) := hx
      have HC : Hid (cy + ((r : Int) + d) = c') := hc'
      have own2 := (o1.stored (o + k) (.int .u16 (x : Int))).1
      rw [vals_set] at own2
      have gr2 := only_setCell hgr (p := ⟨g, o + k, none⟩) (.inl rfl) (.int .u16 (x : Int))
      have OW : Hid ((wr.setCell ⟨g, o + k, none⟩ (.int .u16 (x : Int))).ownsRow base 22 1 (.slice (some ⟨g, 0, none⟩) N c) N (vals (ys.set (o + k) x)) ∧ w.grownBy (wr.setCell ⟨g, o + k, none⟩ (.int .u16 (x : Int))) (some g)) := ⟨own2, gr2⟩
      clear hd hr hx hc' own2 gr2 hkR o1 hgr own HT
      go_wp2
      go_roundw
      case rel =>
        rw [HC.out, wrap_u16, ← HX.out]
        exact ⟨k + 1, c' / 65536, _, by omega, by go_num, rfl, by omega, by omega, HS, OW.out.1, OW.out.2⟩
      case measure => simp [intOf]; omega
    · obtain rfl : k = m := by omega
      have xR := (o1.cellAt (o + k) (by omega)).trans (vals_at (by rw [HT.out.len, HR.out.1]; omega))
      rw [HT.out.same (o + k) (by omega)] at xR
      have fR := o1.frozenAt (o + k)
      have uR := nth_lt HR.out.2.1 (o + k)
      obtain ⟨r, hr⟩ : ∃ r, nth R (o + k) = r := ⟨_, rfl⟩
      rw [hr] at xR uR
      have hkR : o + k < R.length := by rw [HR.out.1]; omega
      obtain ⟨c', hc'⟩ : ∃ c', cy + (r : Int) = c' := ⟨_, rfl⟩
      have hb1 : 0 ≤ c' := by omega
      have hb2 : c' ≤ 65536 := by omega
      obtain ⟨x, hx⟩ : ∃ x : Nat, (x : Int) = c' % 65536 := ⟨(c' % 65536).toNat, by omega⟩
      have HS : Hid (Took R D (-1) o (k + 1) (c' / 65536) (ys.set (o + k) x)) := HT.out.last hkR HR.out.2.2.1 x c' (by rw [hr]; exact hc') hx
      have HX : Hid ((x : Int) = c' % 65536) := hx
      have HC : Hid (cy + (r : Int) = c') := hc'
      have own2 := (o1.stored (o + k) (.int .u16 (x : Int))).1
      rw [vals_set] at own2
      have gr2 := only_setCell hgr (p := ⟨g, o + k, none⟩) (.inl rfl) (.int .u16 (x : Int))
      have OW : Hid ((wr.setCell ⟨g, o + k, none⟩ (.int .u16 (x : Int))).ownsRow base 22 1 (.slice (some ⟨g, 0, none⟩) N c) N (vals (ys.set (o + k) x)) ∧ w.grownBy (wr.setCell ⟨g, o + k, none⟩ (.int .u16 (x : Int))) (some g)) := ⟨own2, gr2⟩
      clear hr hx hc' own2 gr2 hkR o1 hgr own HT
      go_wp2
      go_end0
      rw [show (r : Int) + cy = c' by have := HC.out; omega, wrap_u16, ← HX.out]
      exact ⟨c', _, rfl, HS, OW.out.1, OW.out.2⟩


/-- The top of a number: three limbs, or two, above p limbs. -/
theorem val_top3 (l : List Nat) (o p : Nat) : val ((l.drop o).take (p + 3)) = val ((l.drop o).take p) + 65536 ^ p * (nth l (o + p + 2) * 4294967296 + nth l (o + p + 1) * 65536 + nth l (o + p)) := by
  rw [val_take_succ', val_take_succ', val_take_succ']
  simp only [Nat.pow_succ]
  rw [show o + (p + 2) = o + p + 2 by omega, show o + (p + 1) = o + p + 1 by omega]
  generalize 65536 ^ p = q
  generalize nth l (o + p + 2) = a
  generalize nth l (o + p + 1) = b
  generalize nth l (o + p) = c
  generalize val ((l.drop o).take p) = v
  grind
theorem val_top2 (l : List Nat) (p : Nat) (h : l.length = p + 2) : val l = val (l.take p) + 65536 ^ p * (nth l (p + 1) * 65536 + nth l p) := by
  have e : val l = val ((l.drop 0).take (p + 2)) := by rw [List.drop_zero, List.take_of_length_le (by omega)]
  rw [e, val_take_succ', val_take_succ', List.drop_zero, Nat.zero_add, Nat.zero_add]
  simp only [Nat.pow_succ]
  generalize 65536 ^ p = q
  generalize nth l (p + 1) = a
  generalize nth l p = b
  generalize val (l.take p) = v
  grind
theorem low_lt {l : List Nat} (h : Limbs l) (o p : Nat) : val ((l.drop o).take p) < 65536 ^ p :=
  Nat.lt_of_lt_of_le (val_lt (limbs_take (limbs_drop h o) p)) (Nat.pow_le_pow_right (by omega) (List.length_take_le _ _))

/-- Three limbs by two give the digit, or one more. -/
theorem estimate {S V U W P sl vl : Nat} (hS : S = sl + P * U) (hV : V = vl + P * W) (hsl : sl < P) (hvl : vl < P) (hW : 2147483648 ≤ W) (hq : S < 65536 * V) :
    S / V ≤ U / W ∧ U / W ≤ S / V + 1 ∧ S / V < 65536 := by
  have hP : 0 < P := by omega
  have hVp : 0 < V := by
    rw [hV]
    have := Nat.mul_le_mul hP (by omega : 1 ≤ W)
    omega
  have hq1 : S / V < 65536 := (Nat.div_lt_iff_lt_mul hVp).2 hq
  have hm := Nat.div_add_mod S V
  have hml := Nat.mod_lt S hVp
  generalize S / V = q at *
  generalize S % V = r at *
  have hU := Nat.div_add_mod U W
  have hUl := Nat.mod_lt U (by omega : W > 0)
  generalize hdg : U / W = dg at *
  generalize U % W = t at *
  refine ⟨?_, ?_, hq1⟩
  · -- q W P <= S < (U + 1) P
    have h1 : P * (W * q) < P * (U + 1) := by
      have e1 : P * (W * q) + vl * q + r = sl + P * U := by rw [← hS, ← hm, hV]; grind
      have e2 : P * (U + 1) = P * U + P := by grind
      have := Nat.zero_le (vl * q)
      omega
    have h2 := Nat.lt_of_mul_lt_mul_left h1
    rcases Nat.lt_or_ge dg q with h | h
    · have := Nat.mul_le_mul_left W (show dg + 1 ≤ q from h)
      have e : W * (dg + 1) = W * dg + W := by grind
      omega
    · exact h
  · rcases Nat.lt_or_ge (q + 1) dg with h | h
    · exfalso
      have h1 : W * (q + 2) ≤ W * dg := Nat.mul_le_mul_left W h
      have h2 : P * (W * (q + 2)) ≤ P * U := Nat.mul_le_mul_left P (by omega)
      have h3 : S < V * (q + 1) := by have e : V * (q + 1) = V * q + V := by grind
                                      omega
      have h4 : V * (q + 1) ≤ P * ((W + 1) * (q + 1)) := by
        have : V ≤ P * (W + 1) := by rw [hV]; have e : P * (W + 1) = P * W + P := by grind
                                     omega
        have := Nat.mul_le_mul_right (q + 1) this
        rwa [Nat.mul_assoc] at this
      have h5 : P * (W * (q + 2)) < P * ((W + 1) * (q + 1)) := by omega
      have h6 := Nat.lt_of_mul_lt_mul_left h5
      have e1 : W * (q + 2) = W * q + 2 * W := by grind
      have e2 : (W + 1) * (q + 1) = W * q + W + q + 1 := by grind
      omega
    · exact h

/-- What a whole step leaves: the row ys came of R, the limbs from o on, m + 1 of them, hold the remainder. -/
structure Stepped (R D : List Nat) (o m : Nat) (q : Nat) (ys : List Nat) : Prop where
  len : ys.length = R.length
  limbs : Limbs ys
  same : ∀ j, (j < o ∨ o + (m + 1) ≤ j) → nth ys j = nth R j
  eq : val ((ys.drop o).take (m + 1)) + q * val D = val ((R.drop o).take (m + 1))
  lt : val ((ys.drop o).take (m + 1)) < val D

theorem pow_int (k : Nat) : ((65536 ^ k : Nat) : Int) = (65536 : Int) ^ k := by simp

theorem quot_one {v p c t : Int} (h : v + p * c = t) (hv0 : 0 ≤ v) (hv1 : v < p) (ht0 : -p ≤ t) (ht1 : t < p) : (0 ≤ t → v = t) ∧ (t < 0 → v = t + p) := by
  have hp : 0 < p := by omega
  have hc1 : c ≤ 0 := by
    rcases Int.lt_or_le 0 c with h1 | h1
    · have := Int.mul_le_mul_of_nonneg_left (show (1 : Int) ≤ c by omega) (Int.le_of_lt hp)
      omega
    · exact h1
  have hc2 : -1 ≤ c := by
    rcases Int.lt_or_le c (-1) with h1 | h1
    · have := Int.mul_le_mul_of_nonneg_left (show c ≤ -2 by omega) (Int.le_of_lt hp)
      omega
    · exact h1
  have hc : c = 0 ∨ c = -1 := by omega
  rcases hc with rfl | rfl
  · constructor <;> intro <;> omega
  · constructor <;> intro <;> omega

theorem step_hit {R D : List Nat} {q o m : Nat} {cy : Int} {ys : List Nat} (h : Took R D q o (m + 1) cy ys) (hD : D.length = m) (hLD : Limbs D) (hLR : Limbs R) (hq : val ((R.drop o).take (m + 1)) / val D = q) (hV : 0 < val D) : Stepped R D o m q ys := by
  have e := h.eq
  have hv1 := low_lt h.limbs o (m + 1)
  have hR := low_lt hLR o (m + 1)
  have hm := Nat.div_add_mod (val ((R.drop o).take (m + 1))) (val D)
  have hml := Nat.mod_lt (val ((R.drop o).take (m + 1))) hV
  rw [hq] at hm
  rw [List.take_of_length_le (by omega : D.length ≤ m + 1)] at e
  have hs : (val ((R.drop o).take (m + 1)) : Int) - q * val D = ((val ((R.drop o).take (m + 1)) % val D : Nat) : Int) := by
    have := congrArg (fun n : Nat => (n : Int)) hm
    simp only [Int.natCast_add, Int.natCast_mul] at this
    rw [Int.mul_comm (q : Int)]
    omega
  rw [hs] at e
  have hvi := Int.ofNat_lt.2 hv1
  have hRi := Int.ofNat_lt.2 hR
  rw [pow_int] at hvi hRi
  have hmR := Nat.mod_le (val ((R.drop o).take (m + 1))) (val D)
  have k := (quot_one e (by omega) hvi (by omega) (by omega)).1 (by omega)
  refine ⟨h.len, h.limbs, h.same, ?_, by omega⟩
  rw [Nat.mul_comm q]
  omega

theorem step_miss {R D : List Nat} {q o m : Nat} {cy c2 : Int} {ys zs : List Nat} (h : Took R D ((q + 1 : Nat) : Int) o (m + 1) cy ys) (h2 : Took ys D (-1) o (m + 1) c2 zs) (hD : D.length = m) (hLD : Limbs D) (hLR : Limbs R) (hq : val ((R.drop o).take (m + 1)) / val D = q) (hV : 0 < val D) : Stepped R D o m q zs := by
  have e := h.eq
  have e2 := h2.eq
  have hv1 := low_lt h.limbs o (m + 1)
  have hz1 := low_lt h2.limbs o (m + 1)
  have hR := low_lt hLR o (m + 1)
  have hDm : val D < 65536 ^ (m + 1) := Nat.lt_of_lt_of_le (val_lt hLD) (Nat.pow_le_pow_right (by omega) (by omega))
  have hm := Nat.div_add_mod (val ((R.drop o).take (m + 1))) (val D)
  have hml := Nat.mod_lt (val ((R.drop o).take (m + 1))) hV
  rw [hq] at hm
  rw [List.take_of_length_le (by omega : D.length ≤ m + 1)] at e e2
  obtain ⟨r, hr⟩ : ∃ r, val ((R.drop o).take (m + 1)) % val D = r := ⟨_, rfl⟩
  rw [hr] at hm hml
  have hs : (val ((R.drop o).take (m + 1)) : Int) - ((q + 1 : Nat) : Int) * val D = (r : Int) - val D := by
    have := congrArg (fun n : Nat => (n : Int)) hm
    simp only [Int.natCast_add, Int.natCast_mul] at this
    rw [Int.natCast_add, Int.add_mul, Int.mul_comm (q : Int)]
    have e1 : ((1 : Nat) : Int) * (val D : Int) = val D := by simp
    rw [e1]
    omega
  rw [hs] at e
  have hvi := Int.ofNat_lt.2 hv1
  have hzi := Int.ofNat_lt.2 hz1
  have hDi := Int.ofNat_lt.2 hDm
  rw [pow_int] at hvi hzi hDi
  have k := (quot_one e (by omega) hvi (by omega) (by omega)).2 (by omega)
  rw [k] at e2
  have e3 : (val ((zs.drop o).take (m + 1)) : Int) + 65536 ^ (m + 1) * (c2 - 1) = (r : Int) := by
    rw [Int.mul_sub]
    omega
  have k2 := (quot_one e3 (by omega) hzi (by omega) (by omega)).1 (by omega)
  refine ⟨by rw [h2.len, h.len], h2.limbs, fun j hj => by rw [h2.same j hj, h.same j hj], ?_, by omega⟩
  rw [Nat.mul_comm q]
  omega


theorem or_high (a b : Nat) (ha : a < 65536) (hb : b < 65536) : bits .or .u64 ((a : Int) * 4294967296) ((b : Int) * 65536) = ((a * 4294967296 + b * 65536 : Nat) : Int) := by
  have h1 : a * 4294967296 ||| b * 65536 = a * 4294967296 + b * 65536 := by
    have := Nat.shiftLeft_add_eq_or_of_lt (b := b * 65536) (i := 32) (by omega) a
    rw [Nat.shiftLeft_eq] at this
    exact this.symm
  have e1 : (a : Int) * 4294967296 = ((a * 4294967296 : Nat) : Int) := by simp
  have e2 : (b : Int) * 65536 = ((b * 65536 : Nat) : Int) := by simp
  rw [e1, e2]
  show IntKind.u64.wrap ((BitVec.ofInt 64 ((a * 4294967296 : Nat) : Int) ||| BitVec.ofInt 64 ((b * 65536 : Nat) : Int)).toNat : Int) = _
  rw [BitVec.toNat_or, ofInt_u64 _ (by omega), ofInt_u64 _ (by omega), h1, IntKind.wrap_u64]
  omega
theorem or_top (a b c : Nat) (ha : a < 65536) (hb : b < 65536) (hc : c < 65536) : bits .or .u64 (bits .or .u64 ((a : Int) * 4294967296) ((b : Int) * 65536)) (c : Int) = ((a * 4294967296 + b * 65536 + c : Nat) : Int) := by
  rw [or_high a b ha hb]
  have h := or_shift_u (a * 65536 + b) c (by omega) hc
  have e : (a * 65536 + b) * 65536 = a * 4294967296 + b * 65536 := by omega
  rw [e] at h
  exact h
theorem or_low (a b : Nat) (ha : a < 65536) (hb : b < 65536) : bits .or .u64 ((a : Int) * 65536) (b : Int) = ((a * 65536 + b : Nat) : Int) := by
  have h := or_shift_u a b (by omega) hb
  rwa [Int.natCast_mul] at h

set_option maxRecDepth 100000 in
set_option maxHeartbeats 2000000 in
theorem divideStep_any (base g N c o p cr cd bD oD : Nat) (R D : List Nat) (w : World) (HR : Hid (R.length = N ∧ Limbs R ∧ D.length = p + 2 ∧ Limbs D)) (ho : o + (p + 2) + 1 ≤ N) (hN : N ≤ 10000)
    (own : w.ownsRow base 22 1 (.slice (some ⟨g, 0, none⟩) N c) N (vals R)) (hg : g < w.heap.size)
    (HA : Hid (∀ j, j < p + 2 → w.cell? ⟨bD, oD + j, none⟩ = some (.int .u16 (nth D j)))) (hne : bD ≠ g) (hbD : bD < w.heap.size)
    (HB : Hid (32768 ≤ nth D (p + 1))) (HL : Hid (val ((R.drop o).take (p + 3)) < 65536 * val D)) :
    Calls Try.prog 80 #[.slice (some ⟨g, o, none⟩) (p + 3 : Nat) cr, .slice (some ⟨bD, oD, none⟩) (p + 2 : Nat) cd] w fun e w' =>
      ∃ (q : Nat) (ys : List Nat), e = .returned (.int .u16 q) ∧ q < 65536 ∧ Stepped R D o (p + 2) q ys ∧ w'.ownsRow base 22 1 (.slice (some ⟨g, 0, none⟩) N c) N (vals ys) ∧ w.grownBy w' (some g) := by
  have x2 := (own.cellAt (o + (p + 2)) (by omega)).trans (vals_at (by rw [HR.out.1]; omega))
  have x1 := (own.cellAt (o + (p + 1)) (by omega)).trans (vals_at (by rw [HR.out.1]; omega))
  have x0 := (own.cellAt (o + p) (by omega)).trans (vals_at (by rw [HR.out.1]; omega))
  have d1 := HA.out (p + 1) (by omega)
  have d0 := HA.out p (by omega)
  have u2 := nth_lt HR.out.2.1 (o + (p + 2))
  have u1 := nth_lt HR.out.2.1 (o + (p + 1))
  have u0 := nth_lt HR.out.2.1 (o + p)
  have v1 := nth_lt HR.out.2.2.2 (p + 1)
  have v0 := nth_lt HR.out.2.2.2 p
  have v2 := HB.out
  obtain ⟨r2, hr2⟩ : ∃ r2, nth R (o + (p + 2)) = r2 := ⟨_, rfl⟩
  obtain ⟨r1, hr1⟩ : ∃ r1, nth R (o + (p + 1)) = r1 := ⟨_, rfl⟩
  obtain ⟨r0, hr0⟩ : ∃ r0, nth R (o + p) = r0 := ⟨_, rfl⟩
  obtain ⟨e1, he1⟩ : ∃ e1, nth D (p + 1) = e1 := ⟨_, rfl⟩
  obtain ⟨e0, he0⟩ : ∃ e0, nth D p = e0 := ⟨_, rfl⟩
  have hest := estimate (val_top3 R o p) (val_top2 D p HR.out.2.2.1) (low_lt HR.out.2.1 o p) (low_lt HR.out.2.2.2 0 p) (by rw [he1]; omega) HL.out
  rw [show o + p + 2 = o + (p + 2) by omega, show o + p + 1 = o + (p + 1) by omega, hr2, hr1, hr0, he1, he0] at hest
  rw [hr2] at x2 u2
  rw [hr1] at x1 u1
  rw [hr0] at x0 u0
  rw [he1] at d1 v1 v2
  rw [he0] at d0 v0
  have HE : Hid (val ((R.drop o).take (p + 3)) / val D ≤ (r2 * 4294967296 + r1 * 65536 + r0) / (e1 * 65536 + e0) ∧ (r2 * 4294967296 + r1 * 65536 + r0) / (e1 * 65536 + e0) ≤ val ((R.drop o).take (p + 3)) / val D + 1 ∧ val ((R.drop o).take (p + 3)) / val D < 65536) := hest
  clear hr2 hr1 hr0 he1 he0 hest
  obtain ⟨q, hq⟩ : ∃ q, val ((R.drop o).take (p + 3)) / val D = q := ⟨_, rfl⟩
  have HQ : Hid (val ((R.drop o).take (p + 3)) / val D = q) := hq
  clear hq
  obtain ⟨dg, hdg⟩ : ∃ dg, (r2 * 4294967296 + r1 * 65536 + r0) / (e1 * 65536 + e0) = dg := ⟨_, rfl⟩
  have hE := HE.out
  rw [HQ.out, hdg] at hE
  have HDG : Hid ((r2 * 4294967296 + r1 * 65536 + r0) / (e1 * 65536 + e0) = dg) := hdg
  obtain ⟨hE1, hE2, hE3⟩ := hE
  clear hdg HE
  have ho1 := or_top r2 r1 r0 u2 u1 u0
  have ho3 := or_low e1 e0 v1 v0
  obtain ⟨U, hU⟩ : ∃ U, r2 * 4294967296 + r1 * 65536 + r0 = U := ⟨_, rfl⟩
  obtain ⟨W, hW⟩ : ∃ W, e1 * 65536 + e0 = W := ⟨_, rfl⟩
  have hW1 : 2147483648 ≤ W := by omega
  have hW2 : W < 4294967296 := by omega
  have hU2 : U < 281474976710656 := by omega
  rw [hU] at ho1 HDG
  rw [hW] at ho3 HDG
  clear hU hW
  have hquo : (U : Int) / (W : Int) = (dg : Int) := by
    have := congrArg (fun n : Nat => (n : Int)) HDG.out
    simpa using this
  have hW0 : ((W : Int) == 0) = false := by rw [beq_eq_false_iff_ne]; omega
  have hW00 : ¬ (W : Int) = 0 := by omega
  go_enter Try.func80, Try.ntmps80
  go_wp2
  go_quiet (fail)
  clear ho1
  go_wp2
  go_quiet (fail)
  go_wp2_with fail
  have hVp : 0 < val D := by
    rcases Nat.eq_zero_or_pos (val D) with h | h
    · have := HL.out; rw [h] at this; omega
    · exact h
  have hm := Nat.div_add_mod (val ((R.drop o).take (p + 3))) (val D)
  have hml := Nat.mod_lt (val ((R.drop o).take (p + 3))) hVp
  rw [HQ.out] at hm
  obtain ⟨rm, hrm⟩ : ∃ rm, val ((R.drop o).take (p + 3)) % val D = rm := ⟨_, rfl⟩
  rw [hrm] at hm hml
  clear hrm
  have hmi : (val D : Int) * q + rm = val ((R.drop o).take (p + 3)) := by
    have := congrArg (fun n : Nat => (n : Int)) hm
    simpa using this
  have HV : Hid (0 < val D) := hVp
  have own' : ∀ n, (w.drewN n).ownsRow base 22 1 (.slice (some ⟨g, 0, none⟩) N c) N (vals R) := fun _ => own
  have HA' : ∀ n, Hid (∀ j, j < p + 2 → (w.drewN n).cell? ⟨bD, oD + j, none⟩ = some (.int .u16 (nth D j))) := fun _ => HA
  have hg' : ∀ n, g < (w.drewN n).heap.size := fun _ => hg
  have hbD' : ∀ n, bD < (w.drewN n).heap.size := fun _ => hbD
  rcases (show dg = q ∨ dg = q + 1 by omega) with rfl | rfl
  · have hsn : ¬ ((val ((R.drop o).take (p + 2 + 1)) : Int) - dg * val D < 0) := by
      show ¬ ((val ((R.drop o).take (p + 3)) : Int) - dg * val D < 0)
      rw [Int.mul_comm (dg : Int)]
      omega
    have HSN : Hid (¬ ((val ((R.drop o).take (p + 2 + 1)) : Int) - dg * val D < 0)) := hsn
    clear hm hml hmi hsn hVp
    refine (takeTimes_any base g N c o (p + 2) cr cd bD oD dg R D (w.drewN _) HR (by omega) hN (own' _) (hg' _) (HA' _) hne (hbD' _) (by omega)).mono ?_
    clear own' HA' hg' hbD'
    rintro e w1 ⟨c', ys, rfl, hT, hsg, own1, hgr⟩
    rw [decide_eq_false (fun h => HSN.out (hsg.1 h))]
    have HS : Hid (Stepped R D o (p + 2) dg ys) := step_hit hT HR.out.2.2.1 HR.out.2.2.2 HR.out.2.1 HQ.out HV.out
    have HW : Hid (w.grownBy w1 (some g)) := ⟨hgr.os, hgr.tape, hgr.output, hgr.size, hgr.block⟩
    clear hT hsg hgr
    have hwr : IntKind.u16.wrap (dg : Int) = (dg : Int) := by rw [wrap_u16]; omega
    go_wp2
    go_ret
    exact ⟨dg, ys, rfl, hE3, HS.out, own1, HW.out⟩
  · have hsn : (val ((R.drop o).take (p + 2 + 1)) : Int) - (q + 1 : Nat) * val D < 0 := by
      show (val ((R.drop o).take (p + 3)) : Int) - (q + 1 : Nat) * val D < 0
      rw [Int.mul_comm, Int.natCast_add, Int.mul_add]
      have e1 : (val D : Int) * ((1 : Nat) : Int) = val D := by simp
      rw [e1]
      omega
    have HSN : Hid ((val ((R.drop o).take (p + 2 + 1)) : Int) - (q + 1 : Nat) * val D < 0) := hsn
    clear hm hml hmi hsn hVp
    refine (takeTimes_any base g N c o (p + 2) cr cd bD oD (q + 1) R D (w.drewN _) HR (by omega) hN (own' _) (hg' _) (HA' _) hne (hbD' _) (by omega)).mono ?_
    clear own' HA' hg' hbD'
    rintro e w1 ⟨c', ys, rfl, hT, hsg, own1, hgr⟩
    rw [decide_eq_true (hsg.2 HSN.out)]
    have HT : Hid (Took R D ((q + 1 : Nat) : Int) o (p + 2 + 1) (c' / 65536) ys) := hT
    have HW : Hid (w.grownBy w1 (some g)) := ⟨hgr.os, hgr.tape, hgr.output, hgr.size, hgr.block⟩
    have hg1 : g < w1.heap.size := Nat.lt_of_lt_of_le hg hgr.size
    have hb1 : bD < w1.heap.size := Nat.lt_of_lt_of_le hbD hgr.size
    have HA1 : Hid (∀ j, j < p + 2 → w1.cell? ⟨bD, oD + j, none⟩ = some (.int .u16 (nth D j))) := fun j hj => HW.out.cell (HA.out j hj) (by simpa using hne)
    have HR1 : Hid (ys.length = N ∧ Limbs ys ∧ D.length = p + 2 ∧ Limbs D) := ⟨by rw [HT.out.len]; exact HR.out.1, HT.out.limbs, HR.out.2.2.1, HR.out.2.2.2⟩
    clear hT hsg hgr
    have hwr : IntKind.u16.wrap (q : Int) = (q : Int) := by rw [wrap_u16]; omega
    go_wp2_with fail
    refine (giveBack_any base g N c o (p + 2) cr cd bD oD ys D _ HR1 (by omega) hN own1 hg1 HA1 hne hb1).mono ?_
    rintro e w2 ⟨c2, zs, rfl, hT2, own2, hgr2⟩
    have HS : Hid (Stepped R D o (p + 2) q zs) := step_miss HT.out hT2 HR.out.2.2.1 HR.out.2.2.2 HR.out.2.1 HQ.out HV.out
    have HW2 : Hid (w.grownBy w2 (some g)) := HW.out.trans hgr2
    clear hT2 hgr2
    go_wp2
    go_ret
    exact ⟨q, zs, rfl, hE3, HS.out, own2, HW2.out⟩


/-- k limbs were shifted up: the row ys holds them, with what goes over in limb k. -/
structure Up (l : List Nat) (s n k : Nat) (ys : List Nat) : Prop where
  len : ys.length = n + 1
  limbs : Limbs ys
  rest : nth ys k < 2 ^ s
  zero : ∀ j, k < j → nth ys j = 0
  eq : val (ys.take (k + 1)) = val (l.take k) * 2 ^ s

theorem low_split {a s : Nat} (hs : s ≤ 15) : ∃ m, a * 2 ^ s % 65536 = m * 2 ^ s ∧ (m + 1) * 2 ^ s ≤ 65536 := by
  have e : 65536 = 2 ^ (16 - s) * 2 ^ s := by rw [← Nat.pow_add, show 16 - s + s = 16 by omega]
  refine ⟨a % 2 ^ (16 - s), ?_, ?_⟩
  · conv => lhs; rw [e]
    rw [Nat.mul_mod_mul_right]
  · conv => rhs; rw [e]
    exact Nat.mul_le_mul_right _ (Nat.mod_lt _ (Nat.two_pow_pos _))
theorem or_spill {a s y : Nat} (hs : s ≤ 15) (hy : y < 2 ^ s) : bits .or .u16 (y : Int) ((a * 2 ^ s % 65536 : Nat) : Int) = ((y + a * 2 ^ s % 65536 : Nat) : Int) ∧ y + a * 2 ^ s % 65536 < 65536 := by
  obtain ⟨m, hm, hm2⟩ := low_split (a := a) hs
  rw [hm]
  have h0 : (m + 1) * 2 ^ s = m * 2 ^ s + 2 ^ s := by grind
  have hlt : y + m * 2 ^ s < 65536 := by omega
  refine ⟨?_, hlt⟩
  have h1 : y ||| m * 2 ^ s = y + m * 2 ^ s := by
    have := Nat.shiftLeft_add_eq_or_of_lt (b := y) (i := s) hy m
    rw [Nat.shiftLeft_eq] at this
    rw [Nat.or_comm, ← this, Nat.add_comm]
  have h16 : ∀ x : Nat, x < 65536 → (BitVec.ofInt 16 (x : Int)).toNat = x := fun x hx => by
    rw [BitVec.ofInt_natCast, BitVec.toNat_ofNat]; exact Nat.mod_eq_of_lt (by omega)
  show IntKind.u16.wrap ((BitVec.ofInt 16 (y : Int) ||| BitVec.ofInt 16 ((m * 2 ^ s : Nat) : Int)).toNat : Int) = _
  rw [BitVec.toNat_or, h16 _ (by omega), h16 _ (by omega), h1, wrap_u16]
  omega
theorem Up.step {l ys : List Nat} {s n k a y : Nat} (h : Up l s n k ys) (hk : k < n) (hs : s ≤ 15) (ha : nth l k = a) (ha1 : a < 65536) (hy : nth ys k = y) :
    Up l s n (k + 1) ((ys.set k (y + a * 2 ^ s % 65536)).set (k + 1) (a * 2 ^ s / 65536)) := by
  have hr := h.rest
  rw [hy] at hr
  have hb := (or_spill (a := a) hs hr).2
  have hlt : a * 2 ^ s / 65536 < 2 ^ s := by
    rw [Nat.div_lt_iff_lt_mul (by omega), Nat.mul_comm]
    exact Nat.mul_lt_mul_of_pos_left ha1 (Nat.two_pow_pos s)
  have hps : 2 ^ s ≤ 32768 := Nat.le_trans (Nat.pow_le_pow_right (by omega) hs) (by decide)
  have l1 : k < ys.length := by rw [h.len]; omega
  have l2 : k + 1 < (ys.set k (y + a * 2 ^ s % 65536)).length := by rw [List.length_set, h.len]; omega
  refine ⟨by simp [h.len], limbs_set (limbs_set h.limbs _ _ hb) _ _ (by omega), ?_, fun j hj => ?_, ?_⟩
  · rw [nth_set _ _ _ _ l2, if_pos rfl]; exact hlt
  · rw [nth_set _ _ _ _ l2, if_neg (by omega), nth_set _ _ _ _ l1, if_neg (by omega)]
    exact h.zero j (by omega)
  · rw [take_val_succ, take_val_succ, nth_set _ (k + 1) (k + 1) _ l2, if_pos rfl, nth_set _ (k + 1) k _ l2, if_neg (by omega), nth_set _ k k _ l1, if_pos rfl]
    have e : ((ys.set k (y + a * 2 ^ s % 65536)).set (k + 1) (a * 2 ^ s / 65536)).take k = ys.take k := by
      refine list_ext (by simp) (fun j hj => ?_)
      have hj' : j < k := by simp at hj; omega
      rw [nth_take _ hj', nth_take _ hj', nth_set _ _ _ _ l2, if_neg (by omega), nth_set _ _ _ _ l1, if_neg (by omega)]
    rw [e]
    have h1 := h.eq
    rw [take_val_succ, hy] at h1
    rw [take_val_succ, ha, Nat.add_mul, ← h1, Nat.pow_succ]
    have hz := Nat.div_add_mod (a * 2 ^ s) 65536
    generalize a * 2 ^ s / 65536 = u at *
    generalize a * 2 ^ s % 65536 = v at *
    have e2 : 65536 ^ k * a * 2 ^ s = 65536 ^ k * (a * 2 ^ s) := Nat.mul_assoc _ _ _
    rw [e2, ← hz]
    generalize 65536 ^ k = p
    generalize val (ys.take k) = t
    grind

set_option maxRecDepth 100000 in
set_option maxHeartbeats 2000000 in
theorem shiftUp_any (l : List Nat) (A : Option Addr) (n c s : Nat) (w : World) (hsl : Sl w (.slice A n c) l) (hn : Hid (l.length = n)) (hnl : n ≤ 10000) (hs : s ≤ 15) :
    Calls Try.prog 79 #[.slice A n c, .int .i64 s] w fun e w' => ∃ (ys : List Nat), e = .returned (.slice (some ⟨w.heap.size, 0, none⟩) (n + 1 : Nat) (n + 1 : Nat)) ∧ Up l s n n ys ∧ w'.ownsRow w.heap.size 22 1 (.slice (some ⟨w.heap.size, 0, none⟩) (n + 1 : Nat) (n + 1 : Nat)) (n + 1) (vals ys) ∧ Below w.heap.size w w' := by
  obtain ⟨i0, hi, hz0, hz1, hz2⟩ := info_parts info22
  go_enter Try.func79, Try.ntmps79
  go_wp2_with (at_make; refine wpList_make_full _ rfl _ _ 24 rfl w.heap.size 22 i0 (.int .u16 0) 1 Try.underlying24 hi hz0 hz1 .i64 .i64 _ _ (n + 1) rfl rfl (by simp) (by simp) (by rw [hz2]; omega) (by unfold maxLen; omega) (by simp) ?_; intro w0 hown0 hgrow0; rw [made_vals] at hown0)
  have hb0 : Below w.heap.size w w0 := (Below.refl _ _).grown hgrow0 (Nat.le_refl _) (by simp)
  have hg0 : w.heap.size < w0.heap.size := by
    rcases hown0.2 with ⟨h1, h2⟩ | ⟨g, cap', cur, h1, h2, h3, _⟩
    · cases h1
    · injection h1 with a b c
      injection a with a
      injection a with a
      subst a
      exact (Array.getElem?_eq_some_iff.1 h3).1
  have HP : Hid (2 ^ s ≤ 32768) := Nat.le_trans (Nat.pow_le_pow_right (by omega) hs) (by decide)
  have HP1 : Hid (0 < 2 ^ s) := Nat.two_pow_pos s
  have HL : Hid (Limbs l) := hsl.1
  have HA : Hid (At w A l) := by
    obtain ⟨_, _, A', c', hv, _, _, h⟩ := hsl
    injection hv with e1 e2 e3
    subst e1
    exact h
  clear hsl hgrow0
  obtain ⟨P, hP⟩ : ∃ P, 2 ^ s = P := ⟨_, rfl⟩
  have HPs : Hid (2 ^ s = P) := hP
  go_loopw [15] (fun i wr => ∃ (k : Nat) (ys : List Nat), k ≤ n ∧ i = .int .i64 k ∧ Hid (Up l s n k ys) ∧ wr.ownsRow w.heap.size 22 1 (.slice (some ⟨w.heap.size, 0, none⟩) (n + 1 : Nat) (n + 1 : Nat)) (n + 1) (vals ys) ∧ Below w.heap.size w wr) (fun i _ => n - (intOf i).toNat)
  case atStart => exact ⟨0, List.replicate (n + 1) 0, by omega, rfl, ⟨by simp, fun x hx => by have := (List.mem_replicate.1 hx).2; omega, by simp [nth, List.getD_eq_getElem?_getD]; exact HP1.out, fun j hj => by simp only [nth, List.getD_eq_getElem?_getD, List.getElem?_replicate]; split <;> rfl, by simp [val]⟩, hown0, hb0⟩
  case round =>
    obtain ⟨k, ys, hk, rfl, HU, own, hbel⟩ := hrel
    by_cases hlt : k < n
    · have hki : (k : Int) < (n : Int) := by omega
      obtain ⟨bA, oA, rfl, lA, cA⟩ := HA.out.cells (by rw [hn.out]; omega)
      have xA := (hbel.cell (p := ⟨bA, oA + k, none⟩) lA).trans (cA k (by rw [hn.out]; exact hlt))
      clear cA
      have x0 := (own.cellAt k (by omega)).trans (vals_at (by rw [HU.out.len]; omega))
      have x1 := (own.cellAt (k + 1) (by omega)).trans (vals_at (by rw [HU.out.len]; omega))
      have f0 := own.frozenAt k
      have f1 := own.frozenAt (k + 1)
      have uA := nth_lt HL.out k
      have u0 := HU.out.rest
      obtain ⟨a, ha⟩ : ∃ a, nth l k = a := ⟨_, rfl⟩
      obtain ⟨y, hy⟩ : ∃ y, nth ys k = y := ⟨_, rfl⟩
      rw [ha] at xA uA
      rw [hy] at x0 u0
      have HS : Hid (Up l s n (k + 1) ((ys.set k (y + a * 2 ^ s % 65536)).set (k + 1) (a * 2 ^ s / 65536))) := HU.out.step hlt hs ha uA hy
      have hor := or_spill (a := a) hs u0
      have own2 := (own.stored k (.int .u16 ((y + a * 2 ^ s % 65536 : Nat) : Int))).1
      have own3 := (own2.stored (k + 1) (.int .u16 ((a * 2 ^ s / 65536 : Nat) : Int))).1
      rw [vals_set, vals_set] at own3
      have hbel3 := (hbel.setCell (p := ⟨w.heap.size, k, none⟩) (Nat.le_refl _) (.int .u16 ((y + a * 2 ^ s % 65536 : Nat) : Int))).setCell (p := ⟨w.heap.size, k + 1, none⟩) (Nat.le_refl _) (.int .u16 ((a * 2 ^ s / 65536 : Nat) : Int))
      have hps : 2 ^ s ≤ 32768 := HP.out
      have hzlt : a * 2 ^ s ≤ 65535 * 32768 := Nat.mul_le_mul (by omega) hps
      have hz1 : (a : Int) * 2 ^ s % 4294967296 = ((a * 2 ^ s : Nat) : Int) := by
        have e1 : (a : Int) * 2 ^ s = ((a * 2 ^ s : Nat) : Int) := by simp
        rw [e1]
        omega
      have hz2 : bits .or .u16 (y : Int) (IntKind.u16.wrap ((a * 2 ^ s : Nat) : Int)) = ((y + a * 2 ^ s % 65536 : Nat) : Int) := by
        rw [wrap_u16, ← hor.1]
        rfl
      have HZ : Hid ((a : Int) * 2 ^ s % 4294967296 = ((a * 2 ^ s : Nat) : Int) ∧ bits .or .u16 (y : Int) (IntKind.u16.wrap ((a * 2 ^ s : Nat) : Int)) = ((y + a * 2 ^ s % 65536 : Nat) : Int)) := ⟨hz1, hz2⟩
      have OW : Hid (((wr.setCell ⟨w.heap.size, k, none⟩ (.int .u16 ((y + a * 2 ^ s % 65536 : Nat) : Int))).setCell ⟨w.heap.size, k + 1, none⟩ (.int .u16 ((a * 2 ^ s / 65536 : Nat) : Int))).ownsRow w.heap.size 22 1 (.slice (some ⟨w.heap.size, 0, none⟩) (n + 1 : Nat) (n + 1 : Nat)) (n + 1) (vals ((ys.set k (y + a * 2 ^ s % 65536)).set (k + 1) (a * 2 ^ s / 65536))) ∧ Below w.heap.size w ((wr.setCell ⟨w.heap.size, k, none⟩ (.int .u16 ((y + a * 2 ^ s % 65536 : Nat) : Int))).setCell ⟨w.heap.size, k + 1, none⟩ (.int .u16 ((a * 2 ^ s / 65536 : Nat) : Int)))) := ⟨own3, hbel3⟩
      clear ha hy hor own2 own3 hbel3 hzlt hz1 hz2 own hbel hown0 hb0 HU hps
      go_wp2
      go_roundw
      case rel =>
        rw [HZ.out.1, HZ.out.2]
        exact ⟨k + 1, _, by omega, by go_num, HS, OW.out.1, OW.out.2⟩
      case measure => simp [intOf]; omega
    · obtain rfl : k = n := by omega
      clear hown0 hb0
      go_wp2
      go_ret
      exact ⟨ys, rfl, HU.out, own, hbel⟩
end Go.Proofs.Ytgnidjhfiagfnaa
