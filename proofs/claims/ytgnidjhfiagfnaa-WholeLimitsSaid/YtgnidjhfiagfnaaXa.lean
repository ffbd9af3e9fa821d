/- Bytes reversed in place. Conditions: the bytes are the call's own. -/
import Derived.Test.YtgnidjhfiagfnaaWz
import Derived.RegionTactic
import Derived.BigRegion
namespace Go.Proofs.Ytgnidjhfiagfnaa
open Go.RowKit

/-- Bytes as values. -/
def bytesV (l : List Nat) : List Value := l.map fun x : Nat => Value.int .u8 (x : Int)
theorem bytesV_length (l : List Nat) : (bytesV l).length = l.length := by unfold bytesV; simp
theorem bytesV_at {l : List Nat} {j : Nat} (h : j < l.length) : (bytesV l)[j]? = some (.int .u8 (nth l j : Int)) := by
  unfold bytesV nth
  simp [List.getD_eq_getElem?_getD, h]
theorem bytesV_set (l : List Nat) (j x : Nat) : (bytesV l).set j (.int .u8 (x : Int)) = bytesV (l.set j x) := by
  unfold bytesV; rw [List.map_set]
theorem nth_set (l : List Nat) (i j x : Nat) (hi : i < l.length) : nth (l.set i x) j = if i = j then x else nth l j := by
  unfold nth
  rw [List.getD_eq_getElem?_getD, List.getD_eq_getElem?_getD, List.getElem?_set]
  split
  · subst_vars; simp
  · rfl

/-- After k exchanges. -/
structure Rev (L : List Nat) (n k : Nat) (ys : List Nat) : Prop where
  len : ys.length = n
  byt : ∀ j, j < n → nth ys j < 256
  eq : ∀ t, t < n → nth ys t = if t < k ∨ n ≤ t + k then nth L (n - 1 - t) else nth L t

theorem Rev.step {L : List Nat} {n k : Nat} {ys : List Nat} (h : Rev L n k ys) (hk : k < n - 1 - k) : Rev L n (k + 1) ((ys.set k (nth ys (n - 1 - k))).set (n - 1 - k) (nth ys k)) := by
  have h1 := h.len
  refine ⟨by simp [h1], fun j hj => ?_, fun t ht => ?_⟩
  · rw [nth_set _ _ _ _ (by simp; omega), nth_set _ _ _ _ (by omega)]
    split
    · exact h.byt k (by omega)
    · split
      · exact h.byt _ (by omega)
      · exact h.byt j hj
  · rw [nth_set _ _ _ _ (by simp; omega), nth_set _ _ _ _ (by omega)]
    have e1 := h.eq k (by omega)
    have e2 := h.eq (n - 1 - k) (by omega)
    have e3 := h.eq t ht
    rw [if_neg (by omega)] at e1
    rw [if_neg (by omega)] at e2
    by_cases c1 : n - 1 - k = t
    · subst c1
      rw [if_pos rfl, if_pos (by omega), e1]
      congr 1; omega
    · by_cases c2 : k = t
      · subst c2
        rw [if_neg c1, if_pos rfl, if_pos (by omega), e2]
      · rw [if_neg c1, if_neg c2, e3]
        by_cases c3 : t < k ∨ n ≤ t + k
        · rw [if_pos c3, if_pos (by omega)]
        · rw [if_neg c3, if_neg (by omega)]

theorem Rev.done {L : List Nat} {n k : Nat} {ys : List Nat} (h : Rev L n k ys) (hL : L.length = n) (hk : n - 1 - k ≤ k) (hkn : k ≤ n) : ys = L.reverse := by
  apply list_ext
  · rw [h.len, List.length_reverse, hL]
  · intro t ht
    rw [h.len] at ht
    rw [h.eq t ht]
    have hr : nth L.reverse t = nth L (n - 1 - t) := by
      unfold nth
      rw [List.getD_eq_getElem?_getD, List.getD_eq_getElem?_getD, List.getElem?_reverse (by omega), hL]
    rw [hr]
    split
    · rfl
    · congr 1; omega

set_option maxRecDepth 100000 in
set_option maxHeartbeats 2000000 in
theorem reverse_any (base g n c : Nat) (L : List Nat) (w : World) (hn : Hid (L.length = n)) (hb : ∀ j, j < n → nth L j < 256) (hl : n ≤ 1000000) (own : w.ownsRow base 5 1 (.slice (some ⟨g, 0, none⟩) n c) n (bytesV L)) (_hg : g < w.heap.size) :
    Calls Try.prog 50 #[.slice (some ⟨g, 0, none⟩) n c] w fun e w' => e = .returned (.tuple #[]) ∧ w'.ownsRow base 5 1 (.slice (some ⟨g, 0, none⟩) n c) n (bytesV L.reverse) ∧ w.grownBy w' (some g) := by
  have HB : Hid (∀ j, j < n → nth L j < 256) := hb
  clear hb
  go_enter Try.func50, Try.ntmps50
  go_wp2
  go_loopw [2, 3] (fun i j wr => ∃ (k : Nat) (ys : List Nat), k ≤ n ∧ i = .int .i64 k ∧ j = .int .i64 ((n : Int) - 1 - k) ∧ Hid (Rev L n k ys) ∧ wr.ownsRow base 5 1 (.slice (some ⟨g, 0, none⟩) n c) n (bytesV ys) ∧ w.grownBy wr (some g)) (fun i _ _ => n - (intOf i).toNat)
  case atStart => exact ⟨0, L, by omega, rfl, by simp, ⟨hn.out, HB.out, fun t ht => by rw [if_neg (by omega)]⟩, own, only_refl w g⟩
  case round =>
    obtain ⟨k, ys, hk, rfl, rfl, HR, o1, hgr⟩ := hrel
    by_cases hlt : k < n - 1 - k
    · have hlt2 : (k : Int) < (n : Int) - 1 - k := by omega
      have hstep := HR.out.step hlt
      have HS : Hid (Rev L n (k + 1) ((ys.set k (nth ys (n - 1 - k))).set (n - 1 - k) (nth ys k))) := hstep
      clear hstep
      obtain ⟨jj, hjj⟩ : ∃ jj, n - 1 - k = jj := ⟨_, rfl⟩
      rw [hjj] at HS hlt
      have ej : (n : Int) - 1 - k = (jj : Int) := by omega
      have hji : jj < n := by omega
      clear hjj
      have HE : Hid ((n : Int) - 1 - k = (jj : Int)) := ej
      rw [HE.out] at hlt2 ⊢
      clear ej
      have x1 := (o1.cellAt k (by omega)).trans (bytesV_at (by rw [HR.out.len]; omega))
      have x2 := (o1.cellAt jj (by omega)).trans (bytesV_at (by rw [HR.out.len]; omega))
      have f1 := o1.frozenAt k
      have f2 := o1.frozenAt jj
      have y1 := HR.out.byt k (by omega)
      have y2 := HR.out.byt jj (by omega)
      obtain ⟨a, ha⟩ : ∃ a, nth ys k = a := ⟨_, rfl⟩
      obtain ⟨b, hb'⟩ : ∃ b, nth ys jj = b := ⟨_, rfl⟩
      rw [ha] at x1 y1 HS
      rw [hb'] at x2 y2 HS
      clear ha hb'
      have nkj : k ≠ jj := by omega
      have njk : jj ≠ k := by omega
      have own2 := (o1.stored k (.int .u8 (b : Int))).1
      have own3 := (own2.stored jj (.int .u8 (a : Int))).1
      rw [bytesV_set, bytesV_set] at own3
      have gr3 := only_setCell (only_setCell hgr (p := ⟨g, k, none⟩) (.inl rfl) (.int .u8 (b : Int))) (p := ⟨g, jj, none⟩) (.inl rfl) (.int .u8 (a : Int))
      have OW : Hid (((wr.setCell ⟨g, k, none⟩ (.int .u8 (b : Int))).setCell ⟨g, jj, none⟩ (.int .u8 (a : Int))).ownsRow base 5 1 (.slice (some ⟨g, 0, none⟩) n c) n (bytesV ((ys.set k b).set jj a)) ∧ w.grownBy ((wr.setCell ⟨g, k, none⟩ (.int .u8 (b : Int))).setCell ⟨g, jj, none⟩ (.int .u8 (a : Int))) (some g)) := ⟨own3, gr3⟩
      clear own2 own3 gr3 o1 hgr own
      go_wp2
      go_region
      go_wp2
      exact ⟨⟨k + 1, (ys.set k b).set jj a, by omega, by go_num, by rw [show (jj : Int) - 1 = (n : Int) - 1 - ((k + 1 : Nat) : Int) from by have := HE.out; omega], HS, OW.out.1, only_drew OW.out.2⟩, by simp [intOf]; omega⟩
    · have hge : ¬ (k : Int) < (n : Int) - 1 - k := by omega
      have hd : Hid (ys = L.reverse) := HR.out.done hn.out (by omega) hk
      go_wp2
      go_end0
      exact ⟨rfl, by rw [← hd.out]; exact o1, hgr⟩
end Go.Proofs.Ytgnidjhfiagfnaa
