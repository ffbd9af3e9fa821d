/- The reference of layer 1: Trim, Plus, Minus, Times, Less, Valid, Sum, Neg, Product, fits, Add, Sub, Mul, and the law's helpers Pick and same. Conditions: the numbers are in memory. -/
import Derived.Test.YtgnidjhfiagfnaaWs
import Derived.Deep.LoopGhost
import Derived.Test.YtgnidjhfiagfnaaXq
import Derived.Test.YtgnidjhfiagfnaaXn
import Derived.Deep.RegionHeld3
namespace Go.Proofs.Ytgnidjhfiagfnaa
open Go.RowKit

set_option maxRecDepth 100000 in
set_option maxHeartbeats 400000 in
theorem rtrim_any (l : List Nat) (A : Option Addr) (c : Nat) (w : World) (hc : l.length ≤ c) (hm : l.length ≤ 4611686018427387904) (hl : Limbs l) (hA : At w A l) :
    Calls Try.prog 85 #[.slice A l.length c] w fun e w' => e = .returned (.slice A (cutLen l l.length) c) ∧ w' = w := by
  have hn : l.length ≤ 4611686018427387904 := by omega
  go_enter Try.func85, Try.ntmps85
  go_wp2
  go_loop [3] (fun n => ∃ k : Nat, k ≤ l.length ∧ n = .int .i64 k ∧ cutLen l l.length = cutLen l k) (fun n => (intOf n).toNat)
  case atStart => exact ⟨l.length, by omega, rfl, rfl⟩
  case round =>
    obtain ⟨k, hk, rfl, hcut⟩ := hrel
    have HC : Hid (cutLen l l.length = cutLen l k) := hcut
    clear hcut
    cases k with
    | zero =>
      go_wp2
      go_ret
      exact ⟨by rw [HC.out]; rfl, rfl⟩
    | succ m =>
      obtain ⟨b, off, rfl, hb, hcell⟩ := hA (by intro h; subst h; simp at hk)
      have hx := hcell m (by omega)
      have h16 := nth_lt hl m
      clear hcell
      by_cases hz : nth l m = 0
      · rw [hz] at hx
        have HZ : Hid (nth l m = 0) := hz
        clear hz
        go_wp2
        go_round
        case rel => exact ⟨m, by omega, by go_num, by rw [HC.out, cutLen_zero HZ.out]⟩
        case measure => simp [intOf]
      · go_wp2
        go_ret
        exact ⟨by rw [HC.out, cutLen_pos hz]; simp, rfl⟩



theorem rtrim_sl {w : World} {va : Value} {l : List Nat} (hA : Sl w va l) :
    Calls Try.prog 85 #[va] w fun e w' => ∃ v, e = .returned v ∧ Sl w' v (digs (val l)) ∧ w' = w := by
  obtain ⟨a1, a0, A, c, rfl, a3, a4, a2⟩ := hA
  refine (rtrim_any l A c w a3 (by omega) a1 a2).mono ?_
  rintro e w' ⟨rfl, rfl⟩
  have hk := cutLen_digs a1
  have hle := cutLen_le l l.length
  refine ⟨_, rfl, ⟨limbs_digs _, by omega, A, c, by rw [hk], by omega, a4, ?_⟩, rfl⟩
  rw [← cut_all a1]; exact at_take a2 _


theorem norm_of_ge {L : List Nat} (h : Limbs L) (hv : L = [] ∨ 65536 ^ (L.length - 1) ≤ val L) : Norm L := by
  refine ⟨h, ?_⟩
  rcases hv with rfl | hv
  · simp [val, digs_zero]
  · rcases Nat.eq_zero_or_pos L.length with h0 | h0
    · rw [List.eq_nil_of_length_eq_zero h0]; simp [val, digs_zero]
    · have h1 : (digs (val L)).length ≤ L.length := digs_length (val_lt h)
      have h2 : ¬ (digs (val L)).length ≤ L.length - 1 := fun e => by have := lt_of_digs_length e; omega
      have h3 := cutLen_digs h
      have h4 := cut_all h
      rw [h3, show (digs (val L)).length = L.length by omega, List.take_length] at h4
      exact h4.symm

theorem norm_ge {L : List Nat} (h : Norm L) (h0 : 0 < L.length) : 65536 ^ (L.length - 1) ≤ val L := by
  rcases Nat.lt_or_ge (val L) (65536 ^ (L.length - 1)) with h1 | h1
  · have := digs_length h1
    rw [h.2] at this
    omega
  · exact h1

/-- What Plus has put after k rounds. -/
def Plused (la lb L : List Nat) (k c : Nat) : Prop :=
  Limbs L ∧ L.length = k ∧ val L + 65536 ^ k * c = val (la.take k) + val (lb.take k) ∧ (k ≤ max la.length lb.length ∨ (c = 0 ∧ k = max la.length lb.length + 1 ∧ 65536 ^ (k - 1) ≤ val la + val lb))

theorem plused_step {la lb L : List Nat} {k c : Nat} (h : Plused la lb L k c) (ha : Limbs la) (hb : Limbs lb) (hc : c ≤ 1) (hgo : k < la.length ∨ k < lb.length ∨ 0 < c) :
    Plused la lb (L ++ [(c + nth la k + nth lb k) % 65536]) (k + 1) ((c + nth la k + nth lb k) / 65536) ∧ (c + nth la k + nth lb k) / 65536 ≤ 1 ∧ k ≤ max la.length lb.length := by
  obtain ⟨h1, h2, h3, h4⟩ := h
  have ua := nth_lt ha k
  have ub := nth_lt hb k
  have hk : k ≤ max la.length lb.length := by omega
  refine ⟨⟨?_, by simp [h2], ?_, ?_⟩, by omega, hk⟩
  · exact limbs_append.2 ⟨h1, by intro x hx; simp at hx; omega⟩
  · rw [val_snoc, h2, val_take_succ, val_take_succ, Nat.pow_succ]
    have e := Nat.div_add_mod (c + nth la k + nth lb k) 65536
    generalize (c + nth la k + nth lb k) / 65536 = q at *
    generalize (c + nth la k + nth lb k) % 65536 = r at *
    generalize 65536 ^ k = P at *
    have e2 : P * c + P * nth la k + P * nth lb k = P * (65536 * q + r) := by rw [e, Nat.mul_add, Nat.mul_add]
    rw [Nat.mul_add] at e2
    have e3 : P * 65536 * q = P * (65536 * q) := Nat.mul_assoc ..
    omega
  · rcases Nat.lt_or_ge k (max la.length lb.length) with h5 | h5
    · exact Or.inl (by omega)
    · refine Or.inr ⟨?_, by omega, ?_⟩
      · rw [nth_ge (l := la) (by omega), nth_ge (l := lb) (by omega)]; omega
      · rw [List.take_of_length_le (by omega), List.take_of_length_le (by omega)] at h3
        have : c = 1 := by omega
        subst this
        simp only [Nat.mul_one] at h3
        simp only [Nat.add_sub_cancel]
        omega

theorem plused_done {la lb L : List Nat} {k : Nat} (h : Plused la lb L k 0) (ha : Norm la) (hb : Norm lb) (h1 : la.length ≤ k) (h2 : lb.length ≤ k) : L = digs (val la + val lb) ∧ Limbs L ∧ L.length ≤ max la.length lb.length + 1 := by
  obtain ⟨g1, g2, g3, g4⟩ := h
  rw [List.take_of_length_le h1, List.take_of_length_le h2, Nat.mul_zero, Nat.add_zero] at g3
  have hn : Norm L := norm_of_ge g1 (by
    rcases Nat.eq_zero_or_pos k with h0 | h0
    · exact Or.inl (List.eq_nil_of_length_eq_zero (by omega))
    · refine Or.inr ?_
      rw [g2, g3]
      rcases g4 with h5 | h5
      · rcases Nat.le_total la.length lb.length with h6 | h6
        · have h7 := norm_ge hb (by omega)
          rw [show lb.length = k by omega] at h7; omega
        · have h7 := norm_ge ha (by omega)
          rw [show la.length = k by omega] at h7; omega
      · exact h5.2.2)
  exact ⟨by rw [← g3]; exact hn.2.symm, g1, by omega⟩

set_option maxRecDepth 100000 in
set_option maxHeartbeats 2000000 in
theorem plus_any (la lb : List Nat) (A B : Option Addr) (na nb ca cb : Nat) (w : World) (hsa : Sl w (.slice A na ca) la) (hsb : Sl w (.slice B nb cb) lb) (hna : Hid (la.length = na)) (hnb : Hid (lb.length = nb)) (ha : Norm la) (hb : Norm lb) (hla : na ≤ 4000) (hlb : nb ≤ 4000) :
    Calls Try.prog 67 #[.slice A na ca, .slice B nb cb] w fun e w' => ∃ v, e = .returned v ∧ Sl w' v (digs (val la + val lb)) ∧ Below w.heap.size w w' := by
  obtain ⟨i0, hi, hz0, hz1, hz2⟩ := info_parts info22
  have HN : Hid (Norm la ∧ Norm lb) := ⟨ha, hb⟩
  have HA : Hid (∀ (wr : World) (k : Nat), Below w.heap.size w wr → k < na → ∃ b off, A = some ⟨b, off, none⟩ ∧ wr.cell? ⟨b, off + k, none⟩ = some (.int .u16 (nth la k)) ∧ nth la k < 65536) := fun wr k hw hk => by
    obtain ⟨g1, -, A', c', e, -, -, hA⟩ := hsa.below hw
    injection e with e1 e2 e3
    subst e1
    obtain ⟨b, off, h1, h2, h3⟩ := hA (by intro e; rw [e] at hna; have := hna.out; simp at this; omega)
    exact ⟨b, off, h1, h3 k (by rw [hna.out]; exact hk), nth_lt g1 k⟩
  have HB : Hid (∀ (wr : World) (k : Nat), Below w.heap.size w wr → k < nb → ∃ b off, B = some ⟨b, off, none⟩ ∧ wr.cell? ⟨b, off + k, none⟩ = some (.int .u16 (nth lb k)) ∧ nth lb k < 65536) := fun wr k hw hk => by
    obtain ⟨g1, -, A', c', e, -, -, hA⟩ := hsb.below hw
    injection e with e1 e2 e3
    subst e1
    obtain ⟨b, off, h1, h2, h3⟩ := hA (by intro e; rw [e] at hnb; have := hnb.out; simp at this; omega)
    exact ⟨b, off, h1, h3 k (by rw [hnb.out]; exact hk), nth_lt g1 k⟩
  clear hsa hsb ha hb
  go_enter Try.func67, Try.ntmps67
  go_wp2
  go_loopw [5, 6, 7] (fun o n i wr => ∃ (k c : Nat) (L : List Nat) (O : Option Addr) (cap : Nat), o = .slice O L.length cap ∧ n = .int .i64 c ∧ i = .int .i64 k ∧ c ≤ 1 ∧ Hid (L.length = k) ∧ L.length ≤ 4001 ∧ k ≤ 4001 ∧ wr.ownsRow w.heap.size 22 1 (.slice O L.length cap) L.length (vals L) ∧ Below w.heap.size w wr ∧ Hid (Plused la lb L k c)) (fun _ _ i _ => 4002 - (intOf i).toNat)
  case atStart => exact ⟨0, 0, [], none, 0, rfl, rfl, rfl, by omega, rfl, by simp, by omega, World.ownsRow_nil _ _ _ _, Below.refl _ _, limbs_nil, rfl, by simp [val], Or.inl (by omega)⟩
  case round =>
    obtain ⟨k, c, L, O, cap, rfl, rfl, rfl, hc, hLk, hLm, hk, hown, hbel, HP⟩ := hrel
    by_cases ka : k < na <;> by_cases kb : k < nb
    · skip
      obtain ⟨ab, ao, rfl, xa, ua⟩ := HA.out wr k hbel ka
      obtain ⟨bb, bo, rfl, xb, ub⟩ := HB.out wr k hbel kb
      obtain ⟨x, hx⟩ : ∃ x, nth la k = x := ⟨_, rfl⟩
      obtain ⟨y, hy⟩ : ∃ y, nth lb k = y := ⟨_, rfl⟩
      have ST : Hid (Plused la lb (L ++ [(c + x + y) % 65536]) (k + 1) ((c + x + y) / 65536) ∧ (c + x + y) / 65536 ≤ 1 ∧ k ≤ max la.length lb.length) := by
        have := plused_step HP.out HN.out.1.1 HN.out.2.1 hc (by have := hna.out; have := hnb.out; omega)
        rwa [hx, hy] at this
      rw [hx] at xa ua
      rw [hy] at xb ub
      clear hx hy
      go_wp2_with (at_builtin; refine wpList_append_own _ rfl _ _ 24 rfl w.heap.size 22 i0 (.int .u16 0) 1 2 Try.underlying24 hi hz0 hz1 hz2 rfl (by decide) _ _ _ rfl (hown.alloc _) ⟨wr.heap.size, 0, none⟩ 1 1 [.int .u16 ((c + x + y : Nat) % 65536 : Nat)] rfl rfl ?c1 ?c2 ?c3 ?c4 ?c5 ?_)
      case c1 => exact cell_one_new _ _ _
      case c2 => intro u hu; simp at hu; subst hu; rfl
      case c3 => unfold maxLen; omega
      case c4 => omega
      case c5 => have := hbel.size; simp; omega
      intro v' w1 hown' hgrow _
      obtain ⟨g', cap', rfl⟩ := ownsRow_succ hown'
      have hlow := hown.lt
      have hlen2 : (L ++ [(c + x + y) % 65536]).length = L.length + 1 := by simp
      have hown2 : w1.ownsRow w.heap.size 22 1 (.slice (some ⟨g', 0, none⟩) (L ++ [(c + x + y) % 65536]).length cap') (L ++ [(c + x + y) % 65536]).length (vals (L ++ [(c + x + y) % 65536])) := by
        rw [vals_snoc_nat, hlen2]; exact hown'
      have hb2 : Below w.heap.size w w1 := (hbel.alloc hbel.size _).grown hgrow (by have := hbel.size; simp; omega) (fun k hk => (hlow k hk).1)
      clear hown hown' hgrow hlow hlen2
      go_wp2
      go_roundw
      case rel => exact ⟨k + 1, (c + x + y) / 65536, L ++ [(c + x + y) % 65536], some ⟨g', 0, none⟩, cap', by simp, by go_num, by go_num, by have := ST.out.2.1; omega, by show _ = _; simp [hLk.out], by have := ST.out.2.2; have := hna.out; have := hnb.out; have := hLk.out; simp; omega, by have := ST.out.2.2; have := hna.out; have := hnb.out; omega, hown2, hb2, ST.out.1⟩
      case measure => simp [intOf]; omega
    · skip
      obtain ⟨ab, ao, rfl, xa, ua⟩ := HA.out wr k hbel ka
      obtain ⟨x, hx⟩ : ∃ x, nth la k = x := ⟨_, rfl⟩
      have hy : nth lb k = 0 := nth_ge (by have := hnb.out; omega)
      have ST : Hid (Plused la lb (L ++ [(c + x) % 65536]) (k + 1) ((c + x) / 65536) ∧ (c + x) / 65536 ≤ 1 ∧ k ≤ max la.length lb.length) := by
        have := plused_step HP.out HN.out.1.1 HN.out.2.1 hc (by have := hna.out; have := hnb.out; omega)
        rwa [hx, hy, Nat.add_zero] at this
      rw [hx] at xa ua
      clear hx hy
      go_wp2_with (at_builtin; refine wpList_append_own _ rfl _ _ 24 rfl w.heap.size 22 i0 (.int .u16 0) 1 2 Try.underlying24 hi hz0 hz1 hz2 rfl (by decide) _ _ _ rfl (hown.alloc _) ⟨wr.heap.size, 0, none⟩ 1 1 [.int .u16 ((c + x : Nat) % 65536 : Nat)] rfl rfl ?c1 ?c2 ?c3 ?c4 ?c5 ?_)
      case c1 => exact cell_one_new _ _ _
      case c2 => intro u hu; simp at hu; subst hu; rfl
      case c3 => unfold maxLen; omega
      case c4 => omega
      case c5 => have := hbel.size; simp; omega
      intro v' w1 hown' hgrow _
      obtain ⟨g', cap', rfl⟩ := ownsRow_succ hown'
      have hlow := hown.lt
      have hlen2 : (L ++ [(c + x) % 65536]).length = L.length + 1 := by simp
      have hown2 : w1.ownsRow w.heap.size 22 1 (.slice (some ⟨g', 0, none⟩) (L ++ [(c + x) % 65536]).length cap') (L ++ [(c + x) % 65536]).length (vals (L ++ [(c + x) % 65536])) := by
        rw [vals_snoc_nat, hlen2]; exact hown'
      have hb2 : Below w.heap.size w w1 := (hbel.alloc hbel.size _).grown hgrow (by have := hbel.size; simp; omega) (fun k hk => (hlow k hk).1)
      clear hown hown' hgrow hlow hlen2
      go_wp2
      go_roundw
      case rel => exact ⟨k + 1, (c + x) / 65536, L ++ [(c + x) % 65536], some ⟨g', 0, none⟩, cap', by simp, by go_num, by go_num, by have := ST.out.2.1; omega, by show _ = _; simp [hLk.out], by have := ST.out.2.2; have := hna.out; have := hnb.out; have := hLk.out; simp; omega, by have := ST.out.2.2; have := hna.out; have := hnb.out; omega, hown2, hb2, ST.out.1⟩
      case measure => simp [intOf]; omega
    · skip
      have hx : nth la k = 0 := nth_ge (by have := hna.out; omega)
      obtain ⟨bb, bo, rfl, xb, ub⟩ := HB.out wr k hbel kb
      obtain ⟨y, hy⟩ : ∃ y, nth lb k = y := ⟨_, rfl⟩
      have ST : Hid (Plused la lb (L ++ [(c + y) % 65536]) (k + 1) ((c + y) / 65536) ∧ (c + y) / 65536 ≤ 1 ∧ k ≤ max la.length lb.length) := by
        have := plused_step HP.out HN.out.1.1 HN.out.2.1 hc (by have := hna.out; have := hnb.out; omega)
        rwa [hx, hy, Nat.add_zero] at this
      rw [hy] at xb ub
      clear hx hy
      go_wp2_with (at_builtin; refine wpList_append_own _ rfl _ _ 24 rfl w.heap.size 22 i0 (.int .u16 0) 1 2 Try.underlying24 hi hz0 hz1 hz2 rfl (by decide) _ _ _ rfl (hown.alloc _) ⟨wr.heap.size, 0, none⟩ 1 1 [.int .u16 ((c + y : Nat) % 65536 : Nat)] rfl rfl ?c1 ?c2 ?c3 ?c4 ?c5 ?_)
      case c1 => exact cell_one_new _ _ _
      case c2 => intro u hu; simp at hu; subst hu; rfl
      case c3 => unfold maxLen; omega
      case c4 => omega
      case c5 => have := hbel.size; simp; omega
      intro v' w1 hown' hgrow _
      obtain ⟨g', cap', rfl⟩ := ownsRow_succ hown'
      have hlow := hown.lt
      have hlen2 : (L ++ [(c + y) % 65536]).length = L.length + 1 := by simp
      have hown2 : w1.ownsRow w.heap.size 22 1 (.slice (some ⟨g', 0, none⟩) (L ++ [(c + y) % 65536]).length cap') (L ++ [(c + y) % 65536]).length (vals (L ++ [(c + y) % 65536])) := by
        rw [vals_snoc_nat, hlen2]; exact hown'
      have hb2 : Below w.heap.size w w1 := (hbel.alloc hbel.size _).grown hgrow (by have := hbel.size; simp; omega) (fun k hk => (hlow k hk).1)
      clear hown hown' hgrow hlow hlen2
      go_wp2
      go_roundw
      case rel => exact ⟨k + 1, (c + y) / 65536, L ++ [(c + y) % 65536], some ⟨g', 0, none⟩, cap', by simp, by go_num, by go_num, by have := ST.out.2.1; omega, by show _ = _; simp [hLk.out], by have := ST.out.2.2; have := hna.out; have := hnb.out; have := hLk.out; simp; omega, by have := ST.out.2.2; have := hna.out; have := hnb.out; omega, hown2, hb2, ST.out.1⟩
      case measure => simp [intOf]; omega
    · by_cases c0 : c = 0
      · subst c0
        have hs := sl_own HP.out.1 (by omega) hown
        have hd := plused_done HP.out HN.out.1 HN.out.2 (by have := hna.out; omega) (by have := hnb.out; omega)
        have HD : Hid (L = digs (val la + val lb)) := hd.1
        clear hd
        go_wp2
        go_ret
        rw [HD.out] at hs ⊢
        exact ⟨_, rfl, hs, hbel⟩
      · obtain rfl : c = 1 := by omega
        skip
        have hx : nth la k = 0 := nth_ge (by have := hna.out; omega)
        have hy : nth lb k = 0 := nth_ge (by have := hnb.out; omega)
        have ST : Hid (Plused la lb (L ++ [(1) % 65536]) (k + 1) ((1) / 65536) ∧ (1) / 65536 ≤ 1 ∧ k ≤ max la.length lb.length) := by
          have := plused_step HP.out HN.out.1.1 HN.out.2.1 hc (by have := hna.out; have := hnb.out; omega)
          rwa [hx, hy] at this
        clear hx hy
        go_wp2_with (at_builtin; refine wpList_append_own _ rfl _ _ 24 rfl w.heap.size 22 i0 (.int .u16 0) 1 2 Try.underlying24 hi hz0 hz1 hz2 rfl (by decide) _ _ _ rfl (hown.alloc _) ⟨wr.heap.size, 0, none⟩ 1 1 [.int .u16 ((1 : Nat) % 65536 : Nat)] rfl rfl ?c1 ?c2 ?c3 ?c4 ?c5 ?_)
        case c1 => exact cell_one_new _ _ _
        case c2 => intro u hu; simp at hu; subst hu; rfl
        case c3 => unfold maxLen; omega
        case c4 => omega
        case c5 => have := hbel.size; simp; omega
        intro v' w1 hown' hgrow _
        obtain ⟨g', cap', rfl⟩ := ownsRow_succ hown'
        have hlow := hown.lt
        have hlen2 : (L ++ [(1) % 65536]).length = L.length + 1 := by simp
        have hown2 : w1.ownsRow w.heap.size 22 1 (.slice (some ⟨g', 0, none⟩) (L ++ [(1) % 65536]).length cap') (L ++ [(1) % 65536]).length (vals (L ++ [(1) % 65536])) := by
          rw [vals_snoc_nat, hlen2]; exact hown'
        have hb2 : Below w.heap.size w w1 := (hbel.alloc hbel.size _).grown hgrow (by have := hbel.size; simp; omega) (fun k hk => (hlow k hk).1)
        clear hown hown' hgrow hlow hlen2
        go_wp2
        go_roundw
        case rel => exact ⟨k + 1, (1) / 65536, L ++ [(1) % 65536], some ⟨g', 0, none⟩, cap', by simp, by go_num, by go_num, by have := ST.out.2.1; omega, by show _ = _; simp [hLk.out], by have := ST.out.2.2; have := hna.out; have := hnb.out; have := hLk.out; simp; omega, by have := ST.out.2.2; have := hna.out; have := hnb.out; omega, hown2, hb2, ST.out.1⟩
        case measure => simp [intOf]; omega

end Go.Proofs.Ytgnidjhfiagfnaa

namespace Go.Proofs.Ytgnidjhfiagfnaa
open Go.RowKit

/-- What Minus has put after k rounds. -/
def Minused (la lb L : List Nat) (k c : Nat) : Prop :=
  Limbs L ∧ L.length = k ∧ c ≤ 1 ∧ val L + val (lb.take k) = val (la.take k) + 65536 ^ k * c

theorem minused_step {la lb L : List Nat} {k c d c2 : Nat} (h : Minused la lb L k c) (ha : Limbs la) (hb : Limbs lb)
    (hd : (d : Int) = 65536 + nth la k - c - nth lb k) (hc2 : (c2 : Int) = 1 - (d : Int) / 65536) : Minused la lb (L ++ [d % 65536]) (k + 1) c2 := by
  obtain ⟨h1, h2, h3, h4⟩ := h
  have ua := nth_lt ha k
  have ub := nth_lt hb k
  refine ⟨limbs_append.2 ⟨h1, by intro x hx; simp at hx; omega⟩, by simp [h2], by omega, ?_⟩
  rw [val_snoc, h2, val_take_succ, val_take_succ, Nat.pow_succ]
  have e : d % 65536 + nth lb k + c = nth la k + 65536 * c2 := by omega
  generalize d % 65536 = r at *
  generalize 65536 ^ k = P at *
  have e2 : P * r + P * nth lb k + P * c = P * nth la k + P * (65536 * c2) := by rw [← Nat.mul_add, ← Nat.mul_add, e, Nat.mul_add]
  have e3 : P * 65536 * c2 = P * (65536 * c2) := Nat.mul_assoc ..
  omega

theorem minused_done {la lb L : List Nat} {k c : Nat} (h : Minused la lb L k c) (ha : Norm la) (hb : Norm lb) (h1 : la.length = k) (hle : val lb ≤ val la) : val L = val la - val lb := by
  obtain ⟨g1, g2, g3, g4⟩ := h
  have h2 : lb.length ≤ k := by
    rcases Nat.lt_or_ge la.length lb.length with h | h
    · have := norm_len_lt ha hb h; omega
    · omega
  rw [List.take_of_length_le (by omega), List.take_of_length_le (by omega)] at g4
  have hv := val_lt g1
  rw [g2] at hv
  have : c = 0 := by
    rcases Nat.eq_zero_or_pos c with h | h
    · exact h
    · have : c = 1 := by omega
      subst this
      omega
  subst this
  omega

set_option maxRecDepth 100000 in
set_option maxHeartbeats 2000000 in
theorem minus_any (la lb : List Nat) (A B : Option Addr) (na nb ca cb : Nat) (w : World) (hsa : Sl w (.slice A na ca) la) (hsb : Sl w (.slice B nb cb) lb) (hna : Hid (la.length = na)) (hnb : Hid (lb.length = nb)) (ha : Norm la) (hb : Norm lb) (hla : na ≤ 4000) (_hlb : nb ≤ 4000) (hle : val lb ≤ val la) :
    Calls Try.prog 69 #[.slice A na ca, .slice B nb cb] w fun e w' => ∃ v, e = .returned v ∧ Sl w' v (digs (val la - val lb)) ∧ Below w.heap.size w w' := by
  obtain ⟨i0, hi, hz0, hz1, hz2⟩ := info_parts info22
  have HN : Hid (Norm la ∧ Norm lb ∧ val lb ≤ val la) := ⟨ha, hb, hle⟩
  have HA : Hid (∀ (wr : World) (k : Nat), Below w.heap.size w wr → k < na → ∃ b off, A = some ⟨b, off, none⟩ ∧ wr.cell? ⟨b, off + k, none⟩ = some (.int .u16 (nth la k)) ∧ nth la k < 65536) := fun wr k hw hk => by
    obtain ⟨g1, -, A', c', e, -, -, hA⟩ := hsa.below hw
    injection e with e1 e2 e3
    subst e1
    obtain ⟨b, off, h1, h2, h3⟩ := hA (by intro e; rw [e] at hna; have := hna.out; simp at this; omega)
    exact ⟨b, off, h1, h3 k (by rw [hna.out]; exact hk), nth_lt g1 k⟩
  have HB : Hid (∀ (wr : World) (k : Nat), Below w.heap.size w wr → k < nb → ∃ b off, B = some ⟨b, off, none⟩ ∧ wr.cell? ⟨b, off + k, none⟩ = some (.int .u16 (nth lb k)) ∧ nth lb k < 65536) := fun wr k hw hk => by
    obtain ⟨g1, -, A', c', e, -, -, hA⟩ := hsb.below hw
    injection e with e1 e2 e3
    subst e1
    obtain ⟨b, off, h1, h2, h3⟩ := hA (by intro e; rw [e] at hnb; have := hnb.out; simp at this; omega)
    exact ⟨b, off, h1, h3 k (by rw [hnb.out]; exact hk), nth_lt g1 k⟩
  clear hsa hsb ha hb hle
  go_enter Try.func69, Try.ntmps69
  go_wp2
  go_loopw [5, 6, 7] (fun o n i wr => ∃ (k c : Nat) (L : List Nat) (O : Option Addr) (cap : Nat), o = .slice O L.length cap ∧ n = .int .i64 c ∧ i = .int .i64 k ∧ c ≤ 1 ∧ Hid (L.length = k) ∧ L.length ≤ 4000 ∧ k ≤ na ∧ wr.ownsRow w.heap.size 22 1 (.slice O L.length cap) L.length (vals L) ∧ Below w.heap.size w wr ∧ Hid (Minused la lb L k c)) (fun _ _ i _ => na - (intOf i).toNat)
  case atStart => exact ⟨0, 0, [], none, 0, rfl, rfl, rfl, by omega, rfl, by simp, by omega, World.ownsRow_nil _ _ _ _, Below.refl _ _, limbs_nil, rfl, by omega, by simp [val]⟩
  case round =>
    obtain ⟨k, c, L, O, cap, rfl, rfl, rfl, hc, hLk, hLm, hk, hown, hbel, HP⟩ := hrel
    by_cases ka : k < na
    · obtain ⟨ab, ao, rfl, xa, ua⟩ := HA.out wr k hbel ka
      obtain ⟨x, hx⟩ : ∃ x, nth la k = x := ⟨_, rfl⟩
      by_cases kb : k < nb
      · obtain ⟨bb, bo, rfl, xb, ub⟩ := HB.out wr k hbel kb
        obtain ⟨y, hy⟩ : ∃ y, nth lb k = y := ⟨_, rfl⟩
        rw [hy] at xb ub
        rw [hx] at ua
        obtain ⟨d1, hd1⟩ : ∃ d1 : Nat, 65536 + (x : Int) - c = d1 := ⟨65536 + x - c, by omega⟩
        obtain ⟨d, hd⟩ : ∃ d : Nat, (d1 : Int) - y = d := ⟨d1 - y, by omega⟩
        obtain ⟨c2, hc2⟩ : ∃ c2 : Nat, 1 - (d : Int) / 65536 = c2 := ⟨1 - d / 65536, by omega⟩
        have hc3 : c2 ≤ 1 := by omega
        have ST : Hid (Minused la lb (L ++ [d % 65536]) (k + 1) c2) := minused_step HP.out HN.out.1.1 HN.out.2.1.1 (by rw [hx, hy]; omega) hc2.symm
        rw [hx] at xa
        clear hx hy
        go_wp2_with (at_builtin; refine wpList_append_own _ rfl _ _ 24 rfl w.heap.size 22 i0 (.int .u16 0) 1 2 Try.underlying24 hi hz0 hz1 hz2 rfl (by decide) _ _ _ rfl (hown.alloc _) ⟨wr.heap.size, 0, none⟩ 1 1 [.int .u16 (d % 65536 : Nat)] rfl rfl ?c1 ?c2 ?c3 ?c4 ?c5 ?_)
        case c1 => exact cell_one_new _ _ _
        case c2 => intro u hu; simp at hu; subst hu; rfl
        case c3 => unfold maxLen; omega
        case c4 => omega
        case c5 => have := hbel.size; simp; omega
        intro v' w1 hown' hgrow _
        obtain ⟨g', cap', rfl⟩ := ownsRow_succ hown'
        have hlow := hown.lt
        have hlen2 : (L ++ [d % 65536]).length = L.length + 1 := by simp
        have hown2 : w1.ownsRow w.heap.size 22 1 (.slice (some ⟨g', 0, none⟩) (L ++ [d % 65536]).length cap') (L ++ [d % 65536]).length (vals (L ++ [d % 65536])) := by
          rw [vals_snoc_nat, hlen2]; exact hown'
        have hb2 : Below w.heap.size w w1 := (hbel.alloc hbel.size _).grown hgrow (by have := hbel.size; simp; omega) (fun k hk => (hlow k hk).1)
        clear hown hown' hgrow hlow hlen2
        go_wp2
        go_roundw
        case rel => exact ⟨k + 1, c2, L ++ [d % 65536], some ⟨g', 0, none⟩, cap', by simp, by go_num, by go_num, hc3, by show _ = _; simp [hLk.out], by have := hLk.out; simp; omega, by omega, hown2, hb2, ST⟩
        case measure => simp [intOf]; omega
      · have hy : nth lb k = 0 := nth_ge (by have := hnb.out; omega)
        rw [hx] at ua
        obtain ⟨d1, hd1⟩ : ∃ d1 : Nat, 65536 + (x : Int) - c = d1 := ⟨65536 + x - c, by omega⟩
        obtain ⟨d, hd⟩ : ∃ d : Nat, d1 = d := ⟨d1, rfl⟩
        subst hd
        obtain ⟨c2, hc2⟩ : ∃ c2 : Nat, 1 - (d1 : Int) / 65536 = c2 := ⟨1 - d1 / 65536, by omega⟩
        have hc3 : c2 ≤ 1 := by omega
        have ST : Hid (Minused la lb (L ++ [d1 % 65536]) (k + 1) c2) := minused_step HP.out HN.out.1.1 HN.out.2.1.1 (by rw [hx, hy]; omega) hc2.symm
        rw [hx] at xa
        clear hx hy
        go_wp2_with (at_builtin; refine wpList_append_own _ rfl _ _ 24 rfl w.heap.size 22 i0 (.int .u16 0) 1 2 Try.underlying24 hi hz0 hz1 hz2 rfl (by decide) _ _ _ rfl (hown.alloc _) ⟨wr.heap.size, 0, none⟩ 1 1 [.int .u16 (d1 % 65536 : Nat)] rfl rfl ?c1 ?c2 ?c3 ?c4 ?c5 ?_)
        case c1 => exact cell_one_new _ _ _
        case c2 => intro u hu; simp at hu; subst hu; rfl
        case c3 => unfold maxLen; omega
        case c4 => omega
        case c5 => have := hbel.size; simp; omega
        intro v' w1 hown' hgrow _
        obtain ⟨g', cap', rfl⟩ := ownsRow_succ hown'
        have hlow := hown.lt
        have hlen2 : (L ++ [d1 % 65536]).length = L.length + 1 := by simp
        have hown2 : w1.ownsRow w.heap.size 22 1 (.slice (some ⟨g', 0, none⟩) (L ++ [d1 % 65536]).length cap') (L ++ [d1 % 65536]).length (vals (L ++ [d1 % 65536])) := by
          rw [vals_snoc_nat, hlen2]; exact hown'
        have hb2 : Below w.heap.size w w1 := (hbel.alloc hbel.size _).grown hgrow (by have := hbel.size; simp; omega) (fun k hk => (hlow k hk).1)
        clear hown hown' hgrow hlow hlen2
        go_wp2
        go_roundw
        case rel => exact ⟨k + 1, c2, L ++ [d1 % 65536], some ⟨g', 0, none⟩, cap', by simp, by go_num, by go_num, hc3, by show _ = _; simp [hLk.out], by have := hLk.out; simp; omega, by omega, hown2, hb2, ST⟩
        case measure => simp [intOf]; omega
    · have hs := sl_own HP.out.1 (by omega) hown
      have hd := minused_done HP.out HN.out.1 HN.out.2.1 (by have := hna.out; omega) HN.out.2.2
      have HT : Hid (∀ W, Below w.heap.size w W → wr = W → Calls Try.prog 85 #[.slice O L.length cap] W fun e w' => ∃ v, e = .returned v ∧ Sl w' v (digs (val la - val lb)) ∧ W = w') := fun W _ hW => by
        subst hW
        rw [← hd]
        refine (rtrim_sl hs).mono ?_
        rintro e w' ⟨v, rfl, h1, rfl⟩
        exact ⟨v, rfl, h1, rfl⟩
      clear hs hd
      go_wp2_with (go_at_call 85; refine (HT.out _ hbel rfl).mono ?_; rintro e w2 ⟨v, rfl, hs, rfl⟩)
      go_ret
      exact ⟨_, rfl, hs, hbel⟩
end Go.Proofs.Ytgnidjhfiagfnaa

namespace Go.Proofs.Ytgnidjhfiagfnaa
open Go.RowKit

theorem val_set2 (l : List Nat) (j x : Nat) (h : j < l.length) : val (l.set j x) + 65536 ^ j * nth l j = val l + 65536 ^ j * x := by
  have e1 := val_append (l.take j) (l.drop j)
  rw [List.take_append_drop, List.length_take, Nat.min_eq_left (by omega)] at e1
  have e2 := val_append ((l.set j x).take j) ((l.set j x).drop j)
  rw [List.take_append_drop, List.length_take, List.length_set, Nat.min_eq_left (by omega), List.take_set_of_le (Nat.le_refl _)] at e2
  have e3 : l.drop j = nth l j :: l.drop (j + 1) := by
    rw [List.drop_eq_getElem_cons h]
    simp [nth, List.getD_eq_getElem?_getD, List.getElem?_eq_getElem h]
  have e4 : (l.set j x).drop j = x :: l.drop (j + 1) := by
    rw [List.drop_eq_getElem_cons (by rw [List.length_set]; exact h)]
    rw [List.drop_set_of_lt (by omega)]
    simp
  rw [e3] at e1
  rw [e4] at e2
  rw [e1, e2]
  show val (l.take j) + 65536 ^ j * (x + 65536 * val (l.drop (j + 1))) + 65536 ^ j * nth l j = val (l.take j) + 65536 ^ j * (nth l j + 65536 * val (l.drop (j + 1))) + 65536 ^ j * x
  rw [Nat.mul_add, Nat.mul_add]
  omega

theorem nth_put (l : List Nat) (j x i : Nat) (h : j < l.length) : nth (l.set j x) i = if i = j then x else nth l i := by
  simp only [nth, List.getD_eq_getElem?_getD, List.getElem?_set]
  by_cases e : j = i
  · subst e; simp [h]
  · rw [if_neg e, if_neg (fun e2 => e e2.symm)]

theorem limbs_put2 {l : List Nat} {j x : Nat} (h : Limbs l) (hx : x < 65536) : Limbs (l.set j x) := by
  intro y hy
  rcases List.mem_or_eq_of_mem_set hy with h1 | h1
  · exact h y h1
  · omega

/-- What Times has put after i rounds of the outer and k rounds of the inner loop, with the carry c. -/
def Timed (la lb ys : List Nat) (N i k c : Nat) : Prop :=
  ys.length = N ∧ Limbs ys ∧ (∀ j, i + lb.length ≤ j → nth ys j = 0) ∧ c ≤ 65535 ∧
  val ys + 65536 ^ (i + k) * c = val (la.take i) * val lb + 65536 ^ i * (nth la i * val (lb.take k))

theorem timed_inner {la lb ys : List Nat} {N i k c : Nat} (h : Timed la lb ys N i k c) (ha : Limbs la) (hb : Limbs lb) (hk : k < lb.length) (hN : i + lb.length < N) :
    c + nth la i * nth lb k + nth ys (i + k) ≤ 4294967295 ∧
    Timed la lb (ys.set (i + k) ((c + nth la i * nth lb k + nth ys (i + k)) % 65536)) N i (k + 1) ((c + nth la i * nth lb k + nth ys (i + k)) / 65536) := by
  obtain ⟨h1, h2, h3, h4, h5⟩ := h
  have ua := nth_lt ha i
  have ub := nth_lt hb k
  have uy := nth_lt h2 (i + k)
  have hm : nth la i * nth lb k ≤ 65535 * 65535 := Nat.mul_le_mul (by omega) (by omega)
  have e5 : nth la i * val (lb.take (k + 1)) = nth la i * val (lb.take k) + 65536 ^ k * (nth la i * nth lb k) := by
    rw [val_take_succ, Nat.mul_add, Nat.mul_left_comm]
  have hd : c + nth la i * nth lb k + nth ys (i + k) ≤ 4294967295 := by omega
  refine ⟨hd, by rw [List.length_set]; exact h1, limbs_put2 h2 (Nat.mod_lt _ (by omega)), ?_, by omega, ?_⟩
  · intro j hj2
    rw [nth_put _ _ _ _ (by omega), if_neg (by omega)]
    exact h3 j hj2
  · have hv := val_set2 ys (i + k) ((c + nth la i * nth lb k + nth ys (i + k)) % 65536) (by omega)
    rw [e5, Nat.mul_add (65536 ^ i), ← Nat.mul_assoc (65536 ^ i) (65536 ^ k), ← Nat.pow_add, ← Nat.add_assoc i k 1, Nat.pow_succ]
    have e := Nat.div_add_mod (c + nth la i * nth lb k + nth ys (i + k)) 65536
    generalize nth la i * nth lb k = m at *
    generalize nth ys (i + k) = o at *
    generalize val (ys.set (i + k) ((c + m + o) % 65536)) = V at *
    generalize (c + m + o) % 65536 = r at *
    generalize (c + m + o) / 65536 = q at *
    generalize 65536 ^ (i + k) = P at *
    have e2 : P * c + P * m + P * o = P * (65536 * q) + P * r := by rw [← Nat.mul_add, ← Nat.mul_add, ← Nat.mul_add, e]
    rw [Nat.mul_assoc]
    omega

theorem timed_outer {la lb ys : List Nat} {N i c : Nat} (h : Timed la lb ys N i lb.length c) (hN : i + lb.length < N) :
    Timed la lb (ys.set (i + lb.length) c) N (i + 1) 0 0 := by
  obtain ⟨h1, h2, h3, h4, h5⟩ := h
  have hv := val_set2 ys (i + lb.length) c (by omega)
  rw [h3 (i + lb.length) (by omega)] at hv
  refine ⟨by rw [List.length_set]; exact h1, limbs_put2 h2 (by omega), ?_, by omega, ?_⟩
  · intro j hj2
    rw [nth_put _ _ _ _ (by omega), if_neg (by omega)]
    exact h3 j (by omega)
  · rw [List.take_length] at h5
    rw [val_take_succ]
    simp only [Nat.mul_zero, Nat.add_zero, List.take_zero] at *
    rw [hv, h5, Nat.add_mul]
    have : val ([] : List Nat) = 0 := rfl
    rw [this]
    simp only [Nat.mul_zero, Nat.add_zero]
    rw [Nat.mul_assoc]
end Go.Proofs.Ytgnidjhfiagfnaa

namespace Go.Proofs.Ytgnidjhfiagfnaa
open Go.RowKit

set_option maxRecDepth 100000 in
set_option maxHeartbeats 2000000 in
theorem times_any (la lb : List Nat) (A B : Option Addr) (na nb ca cb : Nat) (w : World) (hsa : Sl w (.slice A na ca) la) (hsb : Sl w (.slice B nb cb) lb) (hna : Hid (la.length = na)) (hnb : Hid (lb.length = nb)) (hla : na ≤ 4000) (hlb : nb ≤ 4000) :
    Calls Try.prog 70 #[.slice A na ca, .slice B nb cb] w fun e w' => ∃ v, e = .returned v ∧ Sl w' v (digs (val la * val lb)) ∧ Below w.heap.size w w' := by
  obtain ⟨i0, hi, hz0, hz1, hz2⟩ := info_parts info22
  have HL : Hid (Limbs la ∧ Limbs lb) := ⟨hsa.1, hsb.1⟩
  have HA : Hid (∀ (wr : World) (k : Nat), Below w.heap.size w wr → k < na → ∃ b off, A = some ⟨b, off, none⟩ ∧ wr.cell? ⟨b, off + k, none⟩ = some (.int .u16 (nth la k)) ∧ nth la k < 65536) := fun wr k hw hk => by
    obtain ⟨g1, -, A', c', e, -, -, hA⟩ := hsa.below hw
    injection e with e1 e2 e3
    subst e1
    obtain ⟨b, off, h1, h2, h3⟩ := hA (by intro e; rw [e] at hna; have := hna.out; simp at this; omega)
    exact ⟨b, off, h1, h3 k (by rw [hna.out]; exact hk), nth_lt g1 k⟩
  have HB : Hid (∀ (wr : World) (k : Nat), Below w.heap.size w wr → k < nb → ∃ b off, B = some ⟨b, off, none⟩ ∧ wr.cell? ⟨b, off + k, none⟩ = some (.int .u16 (nth lb k)) ∧ nth lb k < 65536) := fun wr k hw hk => by
    obtain ⟨g1, -, A', c', e, -, -, hA⟩ := hsb.below hw
    injection e with e1 e2 e3
    subst e1
    obtain ⟨b, off, h1, h2, h3⟩ := hA (by intro e; rw [e] at hnb; have := hnb.out; simp at this; omega)
    exact ⟨b, off, h1, h3 k (by rw [hnb.out]; exact hk), nth_lt g1 k⟩
  clear hsa hsb
  go_enter Try.func70, Try.ntmps70
  go_wp2_with (at_make; refine wpList_make_full _ rfl _ _ 24 rfl w.heap.size 22 i0 (.int .u16 0) 1 Try.underlying24 hi hz0 hz1 .i64 .i64 _ _ (na + nb) rfl rfl (by simp) (by simp) (by rw [hz2]; omega) (by unfold maxLen; omega) (by simp) ?_; intro w0 hown0 hgrow0; rw [made_vals] at hown0)
  have hb0 : Below w.heap.size w w0 := (Below.refl _ _).grown hgrow0 (Nat.le_refl _) (by simp)
  clear hgrow0
  go_loopw [6] (fun i wr => ∃ (k : Nat) (ys : List Nat), k ≤ na ∧ i = .int .i64 k ∧ Hid (Timed la lb ys (na + nb) k 0 0) ∧ wr.ownsRow w.heap.size 22 1 (.slice (some ⟨w.heap.size, 0, none⟩) (na + nb : Nat) (na + nb : Nat)) (na + nb) (vals ys) ∧ Below w.heap.size w wr) (fun i _ => na - (intOf i).toNat)
  case atStart =>
    refine ⟨0, List.replicate (na + nb) 0, by omega, rfl, ⟨by simp, fun x hx => by have := (List.mem_replicate.1 hx).2; omega, fun j _ => by simp only [nth, List.getD_eq_getElem?_getD, List.getElem?_replicate]; split <;> rfl, by omega, ?_⟩, hown0, hb0⟩
    rw [val_eq_zero (fun x hx => (List.mem_replicate.1 hx).2)]
    simp [val]
  case round =>
    obtain ⟨i, ys, hki, rfl, HT, own, hbel⟩ := hrel
    by_cases hlt : i < na
    · obtain ⟨ab, ao, rfl, xa0, ua⟩ := HA.out wr i hbel hlt
      clear xa0
      obtain ⟨x, hx⟩ : ∃ x, nth la i = x := ⟨_, rfl⟩
      rw [hx] at ua
      have HX : Hid (nth la i = x) := hx
      clear hx
      obtain ⟨wo, hwo⟩ : ∃ wo : World, wo = wr := ⟨_, rfl⟩
      rw [← hwo] at own hbel ⊢
      clear hwo
      go_wp2
      go_loopw [7, 8] (fun n j wr => ∃ (k c : Nat) (ys : List Nat), k ≤ nb ∧ n = .int .i64 c ∧ j = .int .i64 k ∧ c ≤ 65535 ∧ Hid (Timed la lb ys (na + nb) i k c) ∧ wr.ownsRow w.heap.size 22 1 (.slice (some ⟨w.heap.size, 0, none⟩) (na + nb : Nat) (na + nb : Nat)) (na + nb) (vals ys) ∧ Below w.heap.size w wr) (fun _ j _ => nb - (intOf j).toNat)
      case atStart => exact ⟨0, 0, ys, by omega, rfl, rfl, by omega, HT, own, hbel⟩
      case round =>
        clear own hbel HT
        obtain ⟨k, c, ys, hkk, rfl, rfl, hc, HT, own, hbel⟩ := hrel
        by_cases hlk : k < nb
        · obtain ⟨ab', ao', e, xa, -⟩ := HA.out wr i hbel hlt
          injection e with e
          injection e with e1 e2 e3
          subst e1 e2
          obtain ⟨bb, bo, rfl, xb, ub⟩ := HB.out wr k hbel hlk
          obtain ⟨y, hy⟩ : ∃ y, nth lb k = y := ⟨_, rfl⟩
          obtain ⟨o, ho⟩ : ∃ o, nth ys (i + k) = o := ⟨_, rfl⟩
          have hik : i + k < na + nb := by omega
          have ST := timed_inner HT.out HL.out.1 HL.out.2 (by rw [hnb.out]; exact hlk) (by rw [hnb.out]; omega)
          have x0 := (own.cellAt (i + k) (by omega)).trans (vals_at (by rw [HT.out.1]; exact hik))
          have f0 := own.frozenAt (i + k)
          have uo : o < 65536 := by rw [← ho]; exact nth_lt HT.out.2.1 _
          rw [HX.out, hy, ho] at ST
          rw [HX.out] at xa
          rw [hy] at xb ub
          rw [ho] at x0
          clear hy ho
          obtain ⟨p, hp⟩ : ∃ p, x * y = p := ⟨_, rfl⟩
          have hpI : (x : Int) * (y : Int) = (p : Int) := by rw [← hp, Int.natCast_mul]
          rw [hp] at ST
          have pb : p ≤ 4294836225 := by rw [← hp]; exact Nat.mul_le_mul (show x ≤ 65535 by omega) (show y ≤ 65535 by omega)
          clear hp
          have hd := ST.1
          have ST2 : Hid (Timed la lb (ys.set (i + k) ((c + p + o) % 65536)) (na + nb) i (k + 1) ((c + p + o) / 65536)) := ST.2
          clear ST
          have own2 := (own.stored (i + k) (.int .u16 (((c + p + o) % 65536 : Nat) : Int))).1
          rw [vals_set] at own2
          have hbel2 := hbel.setCell (p := ⟨w.heap.size, i + k, none⟩) (Nat.le_refl _) (.int .u16 (((c + p + o) % 65536 : Nat) : Int))
          have OW : Hid (_ ∧ _) := ⟨own2, hbel2⟩
          clear own2 hbel2 own
          go_wp2
          go_region
          go_wp2
          go_roundw
          case rel => exact ⟨k + 1, (c + p + o) / 65536, ys.set (i + k) ((c + p + o) % 65536), by omega, by go_num, by go_num, by omega, ST2, OW.out.1, OW.out.2.drew⟩
          case measure => simp [intOf]; omega
        · obtain rfl : k = nb := by omega
          have hik : i + k < na + k := by omega
          have HT2 := HT.out
          rw [← hnb.out] at HT2
          have ST := timed_outer HT2 (by rw [hnb.out]; omega)
          rw [hnb.out] at ST
          have ST2 : Hid (Timed la lb (ys.set (i + k) c) (na + k) (i + 1) 0 0) := ST
          clear ST HT2
          have x0 := (own.cellAt (i + k) (by omega)).trans (vals_at (by rw [HT.out.1]; exact hik))
          have f0 := own.frozenAt (i + k)
          have own2 := (own.stored (i + k) (.int .u16 ((c : Nat) : Int))).1
          rw [vals_set] at own2
          have hbel2 := hbel.setCell (p := ⟨w.heap.size, i + k, none⟩) (Nat.le_refl _) (.int .u16 ((c : Nat) : Int))
          have OW : Hid (_ ∧ _) := ⟨own2, hbel2⟩
          clear own2 hbel2 own
          go_wp2
          go_roundw
          case rel => exact ⟨i + 1, ys.set (i + k) c, by omega, by go_num, ST2, OW.out.1, OW.out.2⟩
          case measure => simp [intOf]; omega
    · obtain rfl : i = na := by omega
      have hd : val ys = val la * val lb := by
        have h := HT.out.2.2.2.2
        rw [← hna.out, List.take_length] at h
        simp only [Nat.mul_zero, Nat.add_zero, List.take_zero] at h
        rw [h]; simp [val]
      have hlen : ys.length = i + nb := HT.out.1
      have hs : Sl wr (.slice (some ⟨w.heap.size, 0, none⟩) (i + nb) (i + nb)) ys := by
        rw [← hlen] at own ⊢
        exact sl_own HT.out.2.1 (by omega) own
      have HT3 : Hid (∀ W, wr = W → Calls Try.prog 85 #[.slice (some ⟨w.heap.size, 0, none⟩) (i + nb) (i + nb)] W fun e w' => ∃ v, e = .returned v ∧ Sl w' v (digs (val la * val lb)) ∧ W = w') := fun W hW => by
        subst hW
        rw [← hd]
        refine (rtrim_sl hs).mono ?_
        rintro e w' ⟨v, rfl, h1, rfl⟩
        exact ⟨v, rfl, h1, rfl⟩
      clear hs hd hlen
      go_wp2_with (go_at_call 85; refine (HT3.out _ rfl).mono ?_; rintro e w2 ⟨v, rfl, hs, rfl⟩)
      go_ret
      exact ⟨_, rfl, hs, hbel⟩
end Go.Proofs.Ytgnidjhfiagfnaa

namespace Go.Proofs.Ytgnidjhfiagfnaa
open Go.RowKit

theorem cmpN_lt (m n : Nat) : decide (cmpN m n = -1) = decide (m < n) := by
  unfold cmpN
  by_cases h : m = n
  · subst h; simp
  · by_cases h2 : m < n
    · simp [h, h2]
    · simp [h, h2]

set_option maxRecDepth 100000 in
set_option maxHeartbeats 2000000 in
theorem less_lens (A B : Option Addr) (na nb ca cb : Nat) (w : World) (_h1 : na ≤ 4000) (_h2 : nb ≤ 4000) (h : na ≠ nb) :
    Calls Try.prog 68 #[.slice A na ca, .slice B nb cb] w fun e w' => e = .returned (.bool (decide (na < nb))) ∧ w = w' := by
  go_enter Try.func68, Try.ntmps68
  have hne : ¬ ((na : Int) = (nb : Int)) := by omega
  go_wp2
  all_goals (first | (exfalso; omega) | skip)
  go_ret
  exact ⟨by simp, rfl⟩

set_option maxRecDepth 100000 in
set_option maxHeartbeats 2000000 in
theorem less_same (la lb : List Nat) (A B : Option Addr) (n ca cb : Nat) (w : World) (hsa : Sl w (.slice A n ca) la) (hsb : Sl w (.slice B n cb) lb) (hna : Hid (la.length = n)) (hnb : Hid (lb.length = n)) (hn : n ≤ 4000) :
    Calls Try.prog 68 #[.slice A n ca, .slice B n cb] w fun e w' => e = .returned (.bool (decide (cmpTop la lb n = -1))) ∧ Below w.heap.size w w' := by
  have HA : Hid (∀ (wr : World) (k : Nat), Below w.heap.size w wr → k < n → ∃ b off, A = some ⟨b, off, none⟩ ∧ wr.cell? ⟨b, off + k, none⟩ = some (.int .u16 (nth la k)) ∧ nth la k < 65536) := fun wr k hw hk => by
    obtain ⟨g1, -, A', c', e, -, -, hA⟩ := hsa.below hw
    injection e with e1 e2 e3
    subst e1
    obtain ⟨b, off, h1, h2, h3⟩ := hA (by intro e; rw [e] at hna; have := hna.out; simp at this; omega)
    exact ⟨b, off, h1, h3 k (by rw [hna.out]; exact hk), nth_lt g1 k⟩
  have HB : Hid (∀ (wr : World) (k : Nat), Below w.heap.size w wr → k < n → ∃ b off, B = some ⟨b, off, none⟩ ∧ wr.cell? ⟨b, off + k, none⟩ = some (.int .u16 (nth lb k)) ∧ nth lb k < 65536) := fun wr k hw hk => by
    obtain ⟨g1, -, A', c', e, -, -, hA⟩ := hsb.below hw
    injection e with e1 e2 e3
    subst e1
    obtain ⟨b, off, h1, h2, h3⟩ := hA (by intro e; rw [e] at hnb; have := hnb.out; simp at this; omega)
    exact ⟨b, off, h1, h3 k (by rw [hnb.out]; exact hk), nth_lt g1 k⟩
  clear hsa hsb
  go_enter Try.func68, Try.ntmps68
  go_wp2
  go_loopw [5] (fun i wr => ∃ k : Nat, k ≤ n ∧ i = .int .i64 ((k : Int) - 1) ∧ Hid (cmpTop la lb n = cmpTop la lb k) ∧ Below w.heap.size w wr) (fun i _ => (intOf i + 1).toNat)
  case atStart => exact ⟨n, by omega, rfl, rfl, Below.refl _ _⟩
  case round =>
    obtain ⟨k, hk, rfl, HT, hbel⟩ := hrel
    cases k with
    | zero =>
      go_wp2
      go_ret
      refine ⟨?_, hbel⟩
      rw [HT.out]; simp [cmpTop]
    | succ k =>
      obtain ⟨ab, ao, rfl, xa, ua⟩ := HA.out wr k hbel (by omega)
      obtain ⟨bb, bo, rfl, xb, ub⟩ := HB.out wr k hbel (by omega)
      obtain ⟨x, hx⟩ : ∃ x, nth la k = x := ⟨_, rfl⟩
      obtain ⟨y, hy⟩ : ∃ y, nth lb k = y := ⟨_, rfl⟩
      rw [hx] at xa ua
      rw [hy] at xb ub
      have HXY : Hid (nth la k = x ∧ nth lb k = y) := ⟨hx, hy⟩
      clear hx hy
      have ei : ((k + 1 : Nat) : Int) - 1 = (k : Int) := by omega
      rw [ei]
      by_cases he : x = y
      · have hT2 : Hid (cmpTop la lb n = cmpTop la lb k) := by
          show _ = _
          rw [HT.out, show cmpTop la lb (k + 1) = if nth la k = nth lb k then cmpTop la lb k else if nth la k < nth lb k then -1 else 1 from rfl, HXY.out.1, HXY.out.2, if_pos he]
        subst he
        go_wp2
        go_region
        go_wp2
        go_roundw
        case rel => exact ⟨k, by omega, by go_num, hT2, hbel.drew⟩
        case measure => simp [intOf]
      · have hT2 : Hid (cmpTop la lb n = if x < y then -1 else 1) := by
          show _ = _
          rw [HT.out, show cmpTop la lb (k + 1) = if nth la k = nth lb k then cmpTop la lb k else if nth la k < nth lb k then -1 else 1 from rfl, HXY.out.1, HXY.out.2, if_neg he]
        have hxy : ¬ ((x : Int) = (y : Int)) := by omega
        have hxy2 : ((x : Int) == (y : Int)) = false := by simp; omega
        go_wp2
        go_region
        go_wp2
        go_region
        go_wp2
        refine bodyPost_ret (v := .bool (decide ((x : Int) < (y : Int)))) (by simp [results, Try.f68, go_sem]) rfl ⟨?_, hbel.drew.drew⟩
        rw [hT2.out]
        by_cases h : x < y
        · rw [if_pos h]; simp [h]
        · rw [if_neg h]; simp [h]

theorem less_sl {w : World} {va vb : Value} {la lb : List Nat} (hA : Sl w va la) (hB : Sl w vb lb) (ha : Norm la) (hb : Norm lb) (hla : la.length ≤ 4000) (hlb : lb.length ≤ 4000) :
    Calls Try.prog 68 #[va, vb] w fun e w' => e = .returned (.bool (decide (val la < val lb))) ∧ Below w.heap.size w w' := by
  obtain ⟨na, A, ca, hna, rfl, sa⟩ := sl_len hA
  obtain ⟨nb, B, cb, hnb, rfl, sb⟩ := sl_len hB
  have e1 := hna.out
  have e2 := hnb.out
  by_cases h : na = nb
  · subst h
    refine (less_same la lb A B na ca cb w sa sb hna hnb (by omega)).mono ?_
    rintro e w' ⟨rfl, h2⟩
    refine ⟨?_, h2⟩
    rw [cmpTop_eq sa.1 sb.1 na (by omega) (by omega), List.take_of_length_le (by omega), List.take_of_length_le (by omega), cmpN_lt]
  · refine (less_lens A B na nb ca cb w (by omega) (by omega) h).mono ?_
    rintro e w' ⟨rfl, rfl⟩
    refine ⟨?_, Below.refl _ _⟩
    have : decide (na < nb) = decide (val la < val lb) := by
      rcases Nat.lt_or_ge na nb with h1 | h1
      · have := norm_len_lt ha hb (by omega); simp [h1, this]
      · have := norm_len_lt hb ha (by omega)
        have h3 : ¬ val la < val lb := by omega
        have h4 : ¬ na < nb := by omega
        simp [h3, h4]
    rw [this]

set_option maxRecDepth 100000 in
set_option maxHeartbeats 2000000 in
theorem rvalid_none (neg : Bool) (A : Option Addr) (c : Nat) (w : World) :
    Calls Try.prog 42 #[.agg #[.bool neg, .slice A 0 c]] w fun e w' => e = .returned (.bool (!neg)) ∧ Below w.heap.size w w' := by
  go_enter Try.func42, Try.ntmps42
  go_wp2
  go_ret
  exact ⟨rfl, (by repeat (first | exact Below.refl _ _ | assumption | refine Below.alloc ?_ (by first | (simp; done) | (simp; omega) | omega) _ | refine Below.setCell ?_ (by first | (simp; done) | (simp; omega) | omega) _ | refine Below.drew ?_))⟩

set_option maxRecDepth 100000 in
set_option maxHeartbeats 2000000 in
theorem rvalid_some (neg : Bool) (m x : Nat) (b off c : Nat) (w : World) (hm : m ≤ 4611686018427387904) (hb : b < w.heap.size) (hx : w.cell? ⟨b, off + m, none⟩ = some (.int .u16 x)) (h16 : x < 65536) :
    Calls Try.prog 42 #[.agg #[.bool neg, .slice (some ⟨b, off, none⟩) (m + 1) c]] w fun e w' => e = .returned (.bool (decide (m < 1024 ∧ x ≠ 0))) ∧ Below w.heap.size w w' := by
  go_enter Try.func42, Try.ntmps42
  have hx2 : (w.alloc (.cells #[.bool neg, .slice (some ⟨b, off, none⟩) (m + 1) c] 26)).cell? ⟨b, off + m, none⟩ = some (.int .u16 x) := ((Below.refl w.heap.size w).alloc (Nat.le_refl _) _ |>.cell hb).trans hx
  by_cases h : m < 1024
  · by_cases h0 : x = 0
    · subst h0
      go_wp2
      go_ret
      exact ⟨by simp, (by repeat (first | exact Below.refl _ _ | assumption | refine Below.alloc ?_ (by first | (simp; done) | (simp; omega) | omega) _ | refine Below.setCell ?_ (by first | (simp; done) | (simp; omega) | omega) _ | refine Below.drew ?_))⟩
    · have h0' : ((x : Int) != 0) = true := by simp; omega
      go_wp2
      go_ret
      exact ⟨by simp [h, h0], (by repeat (first | exact Below.refl _ _ | assumption | refine Below.alloc ?_ (by first | (simp; done) | (simp; omega) | omega) _ | refine Below.setCell ?_ (by first | (simp; done) | (simp; omega) | omega) _ | refine Below.drew ?_))⟩
  · go_wp2
    go_ret
    exact ⟨by simp, (by repeat (first | exact Below.refl _ _ | assumption | refine Below.alloc ?_ (by first | (simp; done) | (simp; omega) | omega) _ | refine Below.setCell ?_ (by first | (simp; done) | (simp; omega) | omega) _ | refine Below.drew ?_))⟩
end Go.Proofs.Ytgnidjhfiagfnaa

namespace Go.Proofs.Ytgnidjhfiagfnaa
open Go.RowKit

theorem rvalid_wh {w : World} {v : Value} {x : Bool} {l : List Nat} (h : Wh w v x l) :
    Calls Try.prog 42 #[v] w fun e w' => e = .returned (.bool (validB x l)) ∧ Below w.heap.size w w' := by
  obtain ⟨A, c, rfl, h1, h2, A', c', h3, _, _, h4⟩ := h
  injection h3 with e1 _ e2
  subst e1 e2
  unfold validB
  by_cases h0 : l.length = 0
  · rw [if_pos h0, h0]
    exact rvalid_none x A c w
  · rw [if_neg h0]
    obtain ⟨b, off, rfl, k2, k3⟩ := h4.cells (by omega)
    obtain ⟨m, hm⟩ : ∃ m, l.length = m + 1 := ⟨l.length - 1, by omega⟩
    have := rvalid_some x m (nth l m) b off c w (by omega) k2 (k3 m (by omega)) (nth_lt h1 m)
    rw [hm]
    refine this.mono ?_
    rintro e w' ⟨rfl, hb⟩
    refine ⟨ret_bool ?_, hb⟩
    simp only [Nat.add_sub_cancel, Nat.add_one_le_iff]

/-- The three boxes of a function of two numbers. -/
theorem boxes3 (w : World) (x y : Bool) (A B : Option Addr) (na nb ca cb : Nat) : ∃ W0, ((w.alloc (.cells #[.bool x, .slice A na ca] 26)).alloc (.cells #[.bool y, .slice B nb cb] 26)).alloc (.cells #[.bool false, .slice none 0 0] 26) = W0 ∧
    Blk W0 w.heap.size 26 #[.bool x, .slice A na ca] ∧ Blk W0 (w.heap.size + 1) 26 #[.bool y, .slice B nb cb] ∧ Blk W0 (w.heap.size + 2) 26 #[.bool false, .slice none 0 0] ∧ Below w.heap.size w W0 := by
  refine ⟨_, rfl, ((Blk.new w _ _).alloc _).alloc _, ?_, ?_, (by repeat (first | exact Below.refl _ _ | assumption | refine Below.alloc ?_ (by first | (simp; done) | (simp; omega) | omega) _ | refine Below.setCell ?_ (by first | (simp; done) | (simp; omega) | omega) _ | refine Below.drew ?_))⟩
  · have := (Blk.new (w.alloc (.cells #[.bool x, .slice A na ca] 26)) 26 #[.bool y, .slice B nb cb]).alloc (.cells #[.bool false, .slice none 0 0] 26)
    rwa [World.size_alloc] at this
  · have := (Blk.new ((w.alloc (.cells #[.bool x, .slice A na ca] 26)).alloc (.cells #[.bool y, .slice B nb cb] 26)) 26 #[.bool false, .slice none 0 0])
    rwa [World.size_alloc, World.size_alloc] at this


set_option maxRecDepth 100000 in
set_option maxHeartbeats 2000000 in
theorem rsum_same (x y : Bool) (la lb : List Nat) (A B : Option Addr) (na nb ca cb : Nat) (w : World) (hsa : Sl w (.slice A na ca) la) (hsb : Sl w (.slice B nb cb) lb) (hna : Hid (la.length = na)) (hnb : Hid (lb.length = nb)) (ha : Norm la) (hb : Norm lb) (hla : na ≤ 4000) (hlb : nb ≤ 4000) (hxy : x = y) (m : Nat) (hm : Hid (m = val la + val lb)) :
    Calls Try.prog 44 #[.agg #[.bool x, .slice A na ca], .agg #[.bool y, .slice B nb cb]] w fun e w' => ∃ A' c', e = .returned (.agg #[.bool (x && decide (0 < (digs m).length)), .slice A' (digs m).length c']) ∧ Sl w' (.slice A' (digs m).length c') (digs m) ∧ Below w.heap.size w w' := by
  obtain ⟨W0, hW0, b0, b1, b2, bw⟩ := boxes3 w x y A B na nb ca cb
  have HW : Hid (((w.alloc (.cells #[.bool x, .slice A na ca] 26)).alloc (.cells #[.bool y, .slice B nb cb] 26)).alloc (.cells #[.bool false, .slice none 0 0] 26) = W0) := hW0
  clear hW0
  have l2 := b2.lt
  have S1 := hsa.below bw
  have S2 := hsb.below bw
  subst hxy
  have H1 : Hid (Calls Try.prog 67 #[.slice A na ca, .slice B nb cb] W0.drew fun e w' => ∃ v, e = .returned v ∧ Sl w' v (digs m) ∧ Below W0.drew.heap.size W0.drew w') := by
    rw [hm.out]
    exact plus_any la lb A B na nb ca cb W0.drew S1 S2 hna hnb ha hb hla hlb
  have exx : (x == x) = true := by cases x <;> rfl
  go_enter Try.func44, Try.ntmps44
  go_wp2_with fail
  rw [HW.out]
  have c1 : W0.cell? ⟨w.heap.size, 0, none⟩ = some (.bool x) := (b0.cell 0).trans rfl
  have c2 : W0.cell? ⟨w.heap.size, 1, none⟩ = some (.slice A na ca) := (b0.cell 1).trans rfl
  have c3 : W0.cell? ⟨w.heap.size + 1, 0, none⟩ = some (.bool x) := (b1.cell 0).trans rfl
  have c4 : W0.cell? ⟨w.heap.size + 1, 1, none⟩ = some (.slice B nb cb) := (b1.cell 1).trans rfl
  have l0 := b0.lt
  have l1 := b1.lt
  have l2 := b2.lt
  have c5 : W0.cell? ⟨w.heap.size + 2, 0, none⟩ = some (.bool false) := (b2.cell 0).trans rfl
  have c6 : W0.cell? ⟨w.heap.size + 2, 1, none⟩ = some (.slice none 0 0) := (b2.cell 1).trans rfl
  have f1 := b0.frozen 0
  have f2 := b0.frozen 1
  have f3 := b1.frozen 0
  have f4 := b1.frozen 1
  have f5 := b2.frozen 0
  have f6 := b2.frozen 1
  go_region_held3 (fun w' => w'.cell? ⟨w.heap.size, 0, none⟩ = some (.bool x) ∧ w'.cell? ⟨w.heap.size, 1, none⟩ = some (.slice A na ca) ∧ w'.cell? ⟨w.heap.size + 1, 0, none⟩ = some (.bool x) ∧ w'.cell? ⟨w.heap.size + 1, 1, none⟩ = some (.slice B nb cb))
    (first | exact ⟨c1, c2, c3, c4⟩ | exact ⟨k1, k2, k3, k4⟩ | exact ⟨m1, m2, m3, m4⟩ | (refine ⟨?_, ?_, ?_, ?_⟩ <;> (simp [go_sem, m1, m2, m3, m4]; done)))
    (first | (go_at_call 67; refine (H1.out).mono ?_; rintro e w1 ⟨v, rfl, hs0, hbx⟩; have hb1 := below_of_drew hbx; clear hbx; have k1 := (hb1.cell (p := ⟨w.heap.size, 0, none⟩) l0).trans c1; have k2 := (hb1.cell (p := ⟨w.heap.size, 1, none⟩) l0).trans c2; have k3 := (hb1.cell (p := ⟨w.heap.size + 1, 0, none⟩) l1).trans c3; have k4 := (hb1.cell (p := ⟨w.heap.size + 1, 1, none⟩) l1).trans c4; obtain ⟨n', A', c', Hn', rfl, hs⟩ := sl_len hs0; clear hs0) | (go_at_call 66; refine (make_any _ _ _ _ _).mono ?_; rintro e w2 ⟨rfl, hb2⟩; have m1 := (hb2.cell (p := ⟨w.heap.size, 0, none⟩) (Nat.lt_of_lt_of_le l0 hb1.size)).trans k1; have m2 := (hb2.cell (p := ⟨w.heap.size, 1, none⟩) (Nat.lt_of_lt_of_le l0 hb1.size)).trans k2; have m3 := (hb2.cell (p := ⟨w.heap.size + 1, 0, none⟩) (Nat.lt_of_lt_of_le l1 hb1.size)).trans k3; have m4 := (hb2.cell (p := ⟨w.heap.size + 1, 1, none⟩) (Nat.lt_of_lt_of_le l1 hb1.size)).trans k4; have d2 := (b2.below hb1 l2).below hb2 (Nat.lt_of_lt_of_le l2 hb1.size); have g4 := (d2.cell 0).trans (b := some (Value.bool false)) rfl; have g5 := (d2.cell 1).trans (b := some (Value.slice none 0 0)) rfl; have h4 := d2.frozen 0; have h5 := d2.frozen 1; have l4 := d2.lt))
  go_wp2
  have d4 := (d2.set_ 0 (.bool (x && decide (0 < n')))).set_ 1 (.slice A' n' c')
  have r0 := (d4.cell 0).trans (b := some (Value.bool (x && decide (0 < n')))) rfl
  have r1 := (d4.cell 1).trans (b := some (Value.slice A' n' c')) rfl
  have s5 := (hs.below hb2).store2 d2 (x && decide (0 < n')) A' n' c'
  exact bodyPost_ret (v := .agg #[.bool (x && decide (0 < n')), .slice A' n' c']) (by simp [results, Try.f44, go_sem, r0, r1]) rfl
    ⟨A', c', by rw [Hn'.out], by rw [Hn'.out]; exact s5, (((bw.trans (hb1.mono bw.size)).trans (hb2.mono (Nat.le_trans bw.size hb1.size))).setCell (p := ⟨w.heap.size + 2, 0, none⟩) (by simp) _ |>.setCell (p := ⟨w.heap.size + 2, 1, none⟩) (by simp) _)⟩

set_option maxRecDepth 100000 in
set_option maxHeartbeats 2000000 in
theorem rsum_lt (x y : Bool) (la lb : List Nat) (A B : Option Addr) (na nb ca cb : Nat) (w : World) (hsa : Sl w (.slice A na ca) la) (hsb : Sl w (.slice B nb cb) lb) (hna : Hid (la.length = na)) (hnb : Hid (lb.length = nb)) (ha : Norm la) (hb : Norm lb) (hla : na ≤ 4000) (hlb : nb ≤ 4000) (hxy : x ≠ y) (hlt : val la < val lb) (m : Nat) (hm : Hid (m = val lb - val la)) :
    Calls Try.prog 44 #[.agg #[.bool x, .slice A na ca], .agg #[.bool y, .slice B nb cb]] w fun e w' => ∃ A' c', e = .returned (.agg #[.bool (y && decide (0 < (digs m).length)), .slice A' (digs m).length c']) ∧ Sl w' (.slice A' (digs m).length c') (digs m) ∧ Below w.heap.size w w' := by
  obtain ⟨W0, hW0, b0, b1, b2, bw⟩ := boxes3 w x y A B na nb ca cb
  have HW : Hid (((w.alloc (.cells #[.bool x, .slice A na ca] 26)).alloc (.cells #[.bool y, .slice B nb cb] 26)).alloc (.cells #[.bool false, .slice none 0 0] 26) = W0) := hW0
  clear hW0
  have l2 := b2.lt
  have S1 := hsa.below bw
  have S2 := hsb.below bw
  have HLs : Hid (Calls Try.prog 68 #[.slice A na ca, .slice B nb cb] W0 fun e w' => e = .returned (.bool (true)) ∧ Below W0.heap.size W0 w') := by
    have := less_sl S1 S2 ha hb (by rw [hna.out]; exact hla) (by rw [hnb.out]; exact hlb)
    rwa [show decide (val la < val lb) = true by simp; omega] at this
  have exx : (x == y) = false := by revert hxy; cases x <;> cases y <;> simp
  go_enter Try.func44, Try.ntmps44
  go_wp2_with fail
  rw [HW.out]
  refine HLs.out.mono ?_
  clear HLs
  rintro e w0 ⟨rfl, hb0⟩
  have bw0 := bw.trans (hb0.mono bw.size)
  have b0' := b0.below hb0 b0.lt
  have b1' := b1.below hb0 b1.lt
  have b2' := b2.below hb0 b2.lt
  replace S1 := S1.below hb0
  replace S2 := S2.below hb0
  clear hb0 bw l2 b0 b1 b2
  have H1 : Hid (Calls Try.prog 69 #[.slice B nb cb, .slice A na ca] w0.drew fun e w' => ∃ v, e = .returned v ∧ Sl w' v (digs m) ∧ Below w0.drew.heap.size w0.drew w') := by
    rw [hm.out]
    exact minus_any lb la B A nb na cb ca w0.drew S2 S1 hnb hna hb ha hlb hla (Nat.le_of_lt hlt)
  go_wp2_with fail
  have c1 : w0.cell? ⟨w.heap.size, 0, none⟩ = some (.bool x) := (b0'.cell 0).trans rfl
  have c2 : w0.cell? ⟨w.heap.size, 1, none⟩ = some (.slice A na ca) := (b0'.cell 1).trans rfl
  have c3 : w0.cell? ⟨w.heap.size + 1, 0, none⟩ = some (.bool y) := (b1'.cell 0).trans rfl
  have c4 : w0.cell? ⟨w.heap.size + 1, 1, none⟩ = some (.slice B nb cb) := (b1'.cell 1).trans rfl
  have l0 := b0'.lt
  have l1 := b1'.lt
  have l2 := b2'.lt
  have c5 : w0.cell? ⟨w.heap.size + 2, 0, none⟩ = some (.bool false) := (b2'.cell 0).trans rfl
  have c6 : w0.cell? ⟨w.heap.size + 2, 1, none⟩ = some (.slice none 0 0) := (b2'.cell 1).trans rfl
  have f1 := b0'.frozen 0
  have f2 := b0'.frozen 1
  have f3 := b1'.frozen 0
  have f4 := b1'.frozen 1
  have f5 := b2'.frozen 0
  have f6 := b2'.frozen 1
  go_region_held3 (fun w' => w'.cell? ⟨w.heap.size, 0, none⟩ = some (.bool x) ∧ w'.cell? ⟨w.heap.size, 1, none⟩ = some (.slice A na ca) ∧ w'.cell? ⟨w.heap.size + 1, 0, none⟩ = some (.bool y) ∧ w'.cell? ⟨w.heap.size + 1, 1, none⟩ = some (.slice B nb cb))
    (first | exact ⟨c1, c2, c3, c4⟩ | exact ⟨k1, k2, k3, k4⟩ | exact ⟨m1, m2, m3, m4⟩ | (refine ⟨?_, ?_, ?_, ?_⟩ <;> (simp [go_sem, m1, m2, m3, m4]; done)))
    (first | (go_at_call 69; refine (H1.out).mono ?_; rintro e w1 ⟨v, rfl, hs0, hbx⟩; have hb1 := below_of_drew hbx; clear hbx; have k1 := (hb1.cell (p := ⟨w.heap.size, 0, none⟩) l0).trans c1; have k2 := (hb1.cell (p := ⟨w.heap.size, 1, none⟩) l0).trans c2; have k3 := (hb1.cell (p := ⟨w.heap.size + 1, 0, none⟩) l1).trans c3; have k4 := (hb1.cell (p := ⟨w.heap.size + 1, 1, none⟩) l1).trans c4; obtain ⟨n', A', c', Hn', rfl, hs⟩ := sl_len hs0; clear hs0) | (go_at_call 66; refine (make_any _ _ _ _ _).mono ?_; rintro e w2 ⟨rfl, hb2⟩; have m1 := (hb2.cell (p := ⟨w.heap.size, 0, none⟩) (Nat.lt_of_lt_of_le l0 hb1.size)).trans k1; have m2 := (hb2.cell (p := ⟨w.heap.size, 1, none⟩) (Nat.lt_of_lt_of_le l0 hb1.size)).trans k2; have m3 := (hb2.cell (p := ⟨w.heap.size + 1, 0, none⟩) (Nat.lt_of_lt_of_le l1 hb1.size)).trans k3; have m4 := (hb2.cell (p := ⟨w.heap.size + 1, 1, none⟩) (Nat.lt_of_lt_of_le l1 hb1.size)).trans k4; have d2 := (b2'.below hb1 l2).below hb2 (Nat.lt_of_lt_of_le l2 hb1.size); have g4 := (d2.cell 0).trans (b := some (Value.bool false)) rfl; have g5 := (d2.cell 1).trans (b := some (Value.slice none 0 0)) rfl; have h4 := d2.frozen 0; have h5 := d2.frozen 1; have l4 := d2.lt))
  go_wp2
  have d4 := (d2.set_ 0 (.bool (y && decide (0 < n')))).set_ 1 (.slice A' n' c')
  have r0 := (d4.cell 0).trans (b := some (Value.bool (y && decide (0 < n')))) rfl
  have r1 := (d4.cell 1).trans (b := some (Value.slice A' n' c')) rfl
  have s5 := (hs.below hb2).store2 d2 (y && decide (0 < n')) A' n' c'
  exact bodyPost_ret (v := .agg #[.bool (y && decide (0 < n')), .slice A' n' c']) (by simp [results, Try.f44, go_sem, r0, r1]) rfl
    ⟨A', c', by rw [Hn'.out], by rw [Hn'.out]; exact s5, (((bw0.trans (hb1.mono bw0.size)).trans (hb2.mono (Nat.le_trans bw0.size hb1.size))).setCell (p := ⟨w.heap.size + 2, 0, none⟩) (by simp) _ |>.setCell (p := ⟨w.heap.size + 2, 1, none⟩) (by simp) _)⟩

set_option maxRecDepth 100000 in
set_option maxHeartbeats 2000000 in
theorem rsum_ge (x y : Bool) (la lb : List Nat) (A B : Option Addr) (na nb ca cb : Nat) (w : World) (hsa : Sl w (.slice A na ca) la) (hsb : Sl w (.slice B nb cb) lb) (hna : Hid (la.length = na)) (hnb : Hid (lb.length = nb)) (ha : Norm la) (hb : Norm lb) (hla : na ≤ 4000) (hlb : nb ≤ 4000) (hxy : x ≠ y) (hlt : val lb ≤ val la) (m : Nat) (hm : Hid (m = val la - val lb)) :
    Calls Try.prog 44 #[.agg #[.bool x, .slice A na ca], .agg #[.bool y, .slice B nb cb]] w fun e w' => ∃ A' c', e = .returned (.agg #[.bool (x && decide (0 < (digs m).length)), .slice A' (digs m).length c']) ∧ Sl w' (.slice A' (digs m).length c') (digs m) ∧ Below w.heap.size w w' := by
  obtain ⟨W0, hW0, b0, b1, b2, bw⟩ := boxes3 w x y A B na nb ca cb
  have HW : Hid (((w.alloc (.cells #[.bool x, .slice A na ca] 26)).alloc (.cells #[.bool y, .slice B nb cb] 26)).alloc (.cells #[.bool false, .slice none 0 0] 26) = W0) := hW0
  clear hW0
  have l2 := b2.lt
  have S1 := hsa.below bw
  have S2 := hsb.below bw
  have HLs : Hid (Calls Try.prog 68 #[.slice A na ca, .slice B nb cb] W0 fun e w' => e = .returned (.bool (false)) ∧ Below W0.heap.size W0 w') := by
    have := less_sl S1 S2 ha hb (by rw [hna.out]; exact hla) (by rw [hnb.out]; exact hlb)
    rwa [show decide (val la < val lb) = false by simp; omega] at this
  have exx : (x == y) = false := by revert hxy; cases x <;> cases y <;> simp
  go_enter Try.func44, Try.ntmps44
  go_wp2_with fail
  rw [HW.out]
  refine HLs.out.mono ?_
  clear HLs
  rintro e w0 ⟨rfl, hb0⟩
  have bw0 := bw.trans (hb0.mono bw.size)
  have b0' := b0.below hb0 b0.lt
  have b1' := b1.below hb0 b1.lt
  have b2' := b2.below hb0 b2.lt
  replace S1 := S1.below hb0
  replace S2 := S2.below hb0
  clear hb0 bw l2 b0 b1 b2
  have H1 : Hid (Calls Try.prog 69 #[.slice A na ca, .slice B nb cb] w0.drew fun e w' => ∃ v, e = .returned v ∧ Sl w' v (digs m) ∧ Below w0.drew.heap.size w0.drew w') := by
    rw [hm.out]
    exact minus_any la lb A B na nb ca cb w0.drew S1 S2 hna hnb ha hb hla hlb hlt
  go_wp2_with fail
  have c1 : w0.cell? ⟨w.heap.size, 0, none⟩ = some (.bool x) := (b0'.cell 0).trans rfl
  have c2 : w0.cell? ⟨w.heap.size, 1, none⟩ = some (.slice A na ca) := (b0'.cell 1).trans rfl
  have c3 : w0.cell? ⟨w.heap.size + 1, 0, none⟩ = some (.bool y) := (b1'.cell 0).trans rfl
  have c4 : w0.cell? ⟨w.heap.size + 1, 1, none⟩ = some (.slice B nb cb) := (b1'.cell 1).trans rfl
  have l0 := b0'.lt
  have l1 := b1'.lt
  have l2 := b2'.lt
  have c5 : w0.cell? ⟨w.heap.size + 2, 0, none⟩ = some (.bool false) := (b2'.cell 0).trans rfl
  have c6 : w0.cell? ⟨w.heap.size + 2, 1, none⟩ = some (.slice none 0 0) := (b2'.cell 1).trans rfl
  have f1 := b0'.frozen 0
  have f2 := b0'.frozen 1
  have f3 := b1'.frozen 0
  have f4 := b1'.frozen 1
  have f5 := b2'.frozen 0
  have f6 := b2'.frozen 1
  go_region_held3 (fun w' => w'.cell? ⟨w.heap.size, 0, none⟩ = some (.bool x) ∧ w'.cell? ⟨w.heap.size, 1, none⟩ = some (.slice A na ca) ∧ w'.cell? ⟨w.heap.size + 1, 0, none⟩ = some (.bool y) ∧ w'.cell? ⟨w.heap.size + 1, 1, none⟩ = some (.slice B nb cb))
    (first | exact ⟨c1, c2, c3, c4⟩ | exact ⟨k1, k2, k3, k4⟩ | exact ⟨m1, m2, m3, m4⟩ | (refine ⟨?_, ?_, ?_, ?_⟩ <;> (simp [go_sem, m1, m2, m3, m4]; done)))
    (first | (go_at_call 69; refine (H1.out).mono ?_; rintro e w1 ⟨v, rfl, hs0, hbx⟩; have hb1 := below_of_drew hbx; clear hbx; have k1 := (hb1.cell (p := ⟨w.heap.size, 0, none⟩) l0).trans c1; have k2 := (hb1.cell (p := ⟨w.heap.size, 1, none⟩) l0).trans c2; have k3 := (hb1.cell (p := ⟨w.heap.size + 1, 0, none⟩) l1).trans c3; have k4 := (hb1.cell (p := ⟨w.heap.size + 1, 1, none⟩) l1).trans c4; obtain ⟨n', A', c', Hn', rfl, hs⟩ := sl_len hs0; clear hs0) | (go_at_call 66; refine (make_any _ _ _ _ _).mono ?_; rintro e w2 ⟨rfl, hb2⟩; have m1 := (hb2.cell (p := ⟨w.heap.size, 0, none⟩) (Nat.lt_of_lt_of_le l0 hb1.size)).trans k1; have m2 := (hb2.cell (p := ⟨w.heap.size, 1, none⟩) (Nat.lt_of_lt_of_le l0 hb1.size)).trans k2; have m3 := (hb2.cell (p := ⟨w.heap.size + 1, 0, none⟩) (Nat.lt_of_lt_of_le l1 hb1.size)).trans k3; have m4 := (hb2.cell (p := ⟨w.heap.size + 1, 1, none⟩) (Nat.lt_of_lt_of_le l1 hb1.size)).trans k4; have d2 := (b2'.below hb1 l2).below hb2 (Nat.lt_of_lt_of_le l2 hb1.size); have g4 := (d2.cell 0).trans (b := some (Value.bool false)) rfl; have g5 := (d2.cell 1).trans (b := some (Value.slice none 0 0)) rfl; have h4 := d2.frozen 0; have h5 := d2.frozen 1; have l4 := d2.lt))
  go_wp2
  have d4 := (d2.set_ 0 (.bool (x && decide (0 < n')))).set_ 1 (.slice A' n' c')
  have r0 := (d4.cell 0).trans (b := some (Value.bool (x && decide (0 < n')))) rfl
  have r1 := (d4.cell 1).trans (b := some (Value.slice A' n' c')) rfl
  have s5 := (hs.below hb2).store2 d2 (x && decide (0 < n')) A' n' c'
  exact bodyPost_ret (v := .agg #[.bool (x && decide (0 < n')), .slice A' n' c']) (by simp [results, Try.f44, go_sem, r0, r1]) rfl
    ⟨A', c', by rw [Hn'.out], by rw [Hn'.out]; exact s5, (((bw0.trans (hb1.mono bw0.size)).trans (hb2.mono (Nat.le_trans bw0.size hb1.size))).setCell (p := ⟨w.heap.size + 2, 0, none⟩) (by simp) _ |>.setCell (p := ⟨w.heap.size + 2, 1, none⟩) (by simp) _)⟩

/-- The reference's Sum. -/
theorem rsum_z {w : World} {va vb : Value} {x y : Bool} {la lb : List Nat} (hA : Wh w va x la) (hB : Wh w vb y lb) (ha : Norm la) (hb : Norm lb) (hla : la.length ≤ 4000) (hlb : lb.length ≤ 4000) :
    Calls Try.prog 44 #[va, vb] w fun e w' => ∃ v, e = .returned v ∧ WhZ w' v (zv x la + zv y lb) ∧ Below w.heap.size w w' := by
  obtain ⟨A, ca, rfl, sa⟩ := hA
  obtain ⟨B, cb, rfl, sb⟩ := hB
  by_cases hxy : x = y
  · refine (rsum_same x y la lb A B _ _ ca cb w sa sb rfl rfl ha hb hla hlb hxy _ rfl).mono ?_
    rintro e w' ⟨A', c', rfl, h1, h2⟩
    refine ⟨_, rfl, signed_z ?_ h1, h2⟩
    subst hxy
    unfold zv; cases x <;> simp <;> omega
  · rcases Nat.lt_or_ge (val la) (val lb) with h | h
    · refine (rsum_lt x y la lb A B _ _ ca cb w sa sb rfl rfl ha hb hla hlb hxy h _ rfl).mono ?_
      rintro e w' ⟨A', c', rfl, h1, h2⟩
      refine ⟨_, rfl, signed_z ?_ h1, h2⟩
      unfold zv; cases x <;> cases y <;> simp at hxy ⊢ <;> omega
    · refine (rsum_ge x y la lb A B _ _ ca cb w sa sb rfl rfl ha hb hla hlb hxy h _ rfl).mono ?_
      rintro e w' ⟨A', c', rfl, h1, h2⟩
      refine ⟨_, rfl, signed_z ?_ h1, h2⟩
      unfold zv; cases x <;> cases y <;> simp at hxy ⊢ <;> omega
end Go.Proofs.Ytgnidjhfiagfnaa

namespace Go.Proofs.Ytgnidjhfiagfnaa
open Go.RowKit

set_option maxRecDepth 100000 in
set_option maxHeartbeats 2000000 in
theorem rprod_any (x y : Bool) (la lb : List Nat) (A B : Option Addr) (na nb ca cb : Nat) (w : World) (hsa : Sl w (.slice A na ca) la) (hsb : Sl w (.slice B nb cb) lb) (hna : Hid (la.length = na)) (hnb : Hid (lb.length = nb)) (_ha : Norm la) (_hb : Norm lb) (hla : na ≤ 4000) (hlb : nb ≤ 4000) (sg : Bool) (hsg : (x != y) = sg) (m : Nat) (hm : Hid (m = val la * val lb)) :
    Calls Try.prog 46 #[.agg #[.bool x, .slice A na ca], .agg #[.bool y, .slice B nb cb]] w fun e w' => ∃ A' c', e = .returned (.agg #[.bool (sg && decide (0 < (digs m).length)), .slice A' (digs m).length c']) ∧ Sl w' (.slice A' (digs m).length c') (digs m) ∧ Below w.heap.size w w' := by
  obtain ⟨W0, hW0, b0, b1, b2, bw⟩ := boxes3 w x y A B na nb ca cb
  have HW : Hid (((w.alloc (.cells #[.bool x, .slice A na ca] 26)).alloc (.cells #[.bool y, .slice B nb cb] 26)).alloc (.cells #[.bool false, .slice none 0 0] 26) = W0) := hW0
  clear hW0
  have l2 := b2.lt
  have S1 := hsa.below bw
  have S2 := hsb.below bw
  have H1 : Hid (Calls Try.prog 70 #[.slice A na ca, .slice B nb cb] W0.drew fun e w' => ∃ v, e = .returned v ∧ Sl w' v (digs m) ∧ Below W0.drew.heap.size W0.drew w') := by
    rw [hm.out]
    exact times_any la lb A B na nb ca cb W0.drew S1 S2 hna hnb hla hlb
  have hsg2 : (!x == y) = sg := by rw [← hsg]; cases x <;> cases y <;> rfl
  go_enter Try.func46, Try.ntmps46
  go_wp2_with fail
  rw [HW.out]
  have c1 : W0.cell? ⟨w.heap.size, 0, none⟩ = some (.bool x) := (b0.cell 0).trans rfl
  have c2 : W0.cell? ⟨w.heap.size, 1, none⟩ = some (.slice A na ca) := (b0.cell 1).trans rfl
  have c3 : W0.cell? ⟨w.heap.size + 1, 0, none⟩ = some (.bool y) := (b1.cell 0).trans rfl
  have c4 : W0.cell? ⟨w.heap.size + 1, 1, none⟩ = some (.slice B nb cb) := (b1.cell 1).trans rfl
  have l0 := b0.lt
  have l1 := b1.lt
  have l2 := b2.lt
  have c5 : W0.cell? ⟨w.heap.size + 2, 0, none⟩ = some (.bool false) := (b2.cell 0).trans rfl
  have c6 : W0.cell? ⟨w.heap.size + 2, 1, none⟩ = some (.slice none 0 0) := (b2.cell 1).trans rfl
  have f1 := b0.frozen 0
  have f2 := b0.frozen 1
  have f3 := b1.frozen 0
  have f4 := b1.frozen 1
  have f5 := b2.frozen 0
  have f6 := b2.frozen 1
  go_region_held3 (fun w' => w'.cell? ⟨w.heap.size, 0, none⟩ = some (.bool x) ∧ w'.cell? ⟨w.heap.size, 1, none⟩ = some (.slice A na ca) ∧ w'.cell? ⟨w.heap.size + 1, 0, none⟩ = some (.bool y) ∧ w'.cell? ⟨w.heap.size + 1, 1, none⟩ = some (.slice B nb cb))
    (first | exact ⟨c1, c2, c3, c4⟩ | exact ⟨k1, k2, k3, k4⟩ | exact ⟨m1, m2, m3, m4⟩ | (refine ⟨?_, ?_, ?_, ?_⟩ <;> (simp [go_sem, m1, m2, m3, m4]; done)))
    (first | (go_at_call 70; refine (H1.out).mono ?_; rintro e w1 ⟨v, rfl, hs0, hbx⟩; have hb1 := below_of_drew hbx; clear hbx; have k1 := (hb1.cell (p := ⟨w.heap.size, 0, none⟩) l0).trans c1; have k2 := (hb1.cell (p := ⟨w.heap.size, 1, none⟩) l0).trans c2; have k3 := (hb1.cell (p := ⟨w.heap.size + 1, 0, none⟩) l1).trans c3; have k4 := (hb1.cell (p := ⟨w.heap.size + 1, 1, none⟩) l1).trans c4; obtain ⟨n', A', c', Hn', rfl, hs⟩ := sl_len hs0; clear hs0) | (go_at_call 66; refine (make_any _ _ _ _ _).mono ?_; rintro e w2 ⟨rfl, hb2⟩; have m1 := (hb2.cell (p := ⟨w.heap.size, 0, none⟩) (Nat.lt_of_lt_of_le l0 hb1.size)).trans k1; have m2 := (hb2.cell (p := ⟨w.heap.size, 1, none⟩) (Nat.lt_of_lt_of_le l0 hb1.size)).trans k2; have m3 := (hb2.cell (p := ⟨w.heap.size + 1, 0, none⟩) (Nat.lt_of_lt_of_le l1 hb1.size)).trans k3; have m4 := (hb2.cell (p := ⟨w.heap.size + 1, 1, none⟩) (Nat.lt_of_lt_of_le l1 hb1.size)).trans k4; have d2 := (b2.below hb1 l2).below hb2 (Nat.lt_of_lt_of_le l2 hb1.size); have g4 := (d2.cell 0).trans (b := some (Value.bool false)) rfl; have g5 := (d2.cell 1).trans (b := some (Value.slice none 0 0)) rfl; have h4 := d2.frozen 0; have h5 := d2.frozen 1; have l4 := d2.lt))
  go_wp2
  have d4 := (d2.set_ 0 (.bool (sg && decide (0 < n')))).set_ 1 (.slice A' n' c')
  have r0 := (d4.cell 0).trans (b := some (Value.bool (sg && decide (0 < n')))) rfl
  have r1 := (d4.cell 1).trans (b := some (Value.slice A' n' c')) rfl
  have s5 := (hs.below hb2).store2 d2 (sg && decide (0 < n')) A' n' c'
  exact bodyPost_ret (v := .agg #[.bool (sg && decide (0 < n')), .slice A' n' c']) (by simp [results, Try.f46, go_sem, r0, r1]) rfl
    ⟨A', c', by rw [Hn'.out], by rw [Hn'.out]; exact s5, (((bw.trans (hb1.mono bw.size)).trans (hb2.mono (Nat.le_trans bw.size hb1.size))).setCell (p := ⟨w.heap.size + 2, 0, none⟩) (by simp) _ |>.setCell (p := ⟨w.heap.size + 2, 1, none⟩) (by simp) _)⟩


/-- The reference's Product. -/
theorem rprod_z {w : World} {va vb : Value} {x y : Bool} {la lb : List Nat} (hA : Wh w va x la) (hB : Wh w vb y lb) (ha : Norm la) (hb : Norm lb) (hla : la.length ≤ 4000) (hlb : lb.length ≤ 4000) :
    Calls Try.prog 46 #[va, vb] w fun e w' => ∃ v, e = .returned v ∧ WhZ w' v (zv x la * zv y lb) ∧ Below w.heap.size w w' := by
  obtain ⟨A, ca, rfl, sa⟩ := hA
  obtain ⟨B, cb, rfl, sb⟩ := hB
  refine (rprod_any x y la lb A B _ _ ca cb w sa sb rfl rfl ha hb hla hlb (x != y) rfl _ rfl).mono ?_
  rintro e w' ⟨A', c', rfl, h1, h2⟩
  refine ⟨_, rfl, signed_z ?_ h1, h2⟩
  unfold zv; cases x <;> cases y <;> simp [Int.natCast_mul, Int.mul_neg, Int.neg_mul]

set_option maxRecDepth 100000 in
set_option maxHeartbeats 2000000 in
theorem rneg_any (x : Bool) (la : List Nat) (A : Option Addr) (na ca : Nat) (w : World) (hsa : Sl w (.slice A na ca) la) (_hna : Hid (la.length = na)) :
    Calls Try.prog 45 #[.agg #[.bool x, .slice A na ca]] w fun e w' => e = .returned (.agg #[.bool (!x && decide (0 < na)), .slice A na ca]) ∧ Sl w' (.slice A na ca) la ∧ Below w.heap.size w w' := by
  obtain ⟨W0, hW0⟩ : ∃ W0, (w.alloc (.cells #[.bool x, .slice A na ca] 26)).alloc (.cells #[.bool false, .slice none 0 0] 26) = W0 := ⟨_, rfl⟩
  have b0 : Blk W0 w.heap.size 26 #[.bool x, .slice A na ca] := by rw [← hW0]; exact (Blk.new w _ _).alloc _
  have b1 : Blk W0 (w.heap.size + 1) 26 #[.bool false, .slice none 0 0] := by
    rw [← hW0]
    have := Blk.new (w.alloc (.cells #[.bool x, .slice A na ca] 26)) 26 #[.bool false, .slice none 0 0]
    rwa [World.size_alloc] at this
  have bw : Below w.heap.size w W0 := by rw [← hW0]; exact (by repeat (first | exact Below.refl _ _ | assumption | refine Below.alloc ?_ (by first | (simp; done) | (simp; omega) | omega) _ | refine Below.setCell ?_ (by first | (simp; done) | (simp; omega) | omega) _ | refine Below.drew ?_))
  have HW : Hid ((w.alloc (.cells #[.bool x, .slice A na ca] 26)).alloc (.cells #[.bool false, .slice none 0 0] 26) = W0) := hW0
  clear hW0
  have l1 := b1.lt
  have S1 := hsa.below bw
  go_enter Try.func45, Try.ntmps45
  go_wp2_with fail
  rw [HW.out]
  refine (make_any _ _ _ _ _).mono ?_
  rintro e w2 ⟨rfl, hb2⟩
  have d2 := b1.below hb2 l1
  have g4 := (d2.cell 0).trans (b := some (Value.bool false)) rfl
  have g5 := (d2.cell 1).trans (b := some (Value.slice none 0 0)) rfl
  have h4 := d2.frozen 0
  have h5 := d2.frozen 1
  have l4 := d2.lt
  go_wp2
  have d4 := (d2.set_ 0 (.bool (!x && decide (0 < na)))).set_ 1 (.slice A na ca)
  have r0 := (d4.cell 0).trans (b := some (Value.bool (!x && decide (0 < na)))) rfl
  have r1 := (d4.cell 1).trans (b := some (Value.slice A na ca)) rfl
  have s5 := (S1.below hb2).store2 d2 (!x && decide (0 < na)) A na ca
  exact bodyPost_ret (v := .agg #[.bool (!x && decide (0 < na)), .slice A na ca]) (by simp [results, Try.f45, go_sem, r0, r1]) rfl
    ⟨rfl, s5, ((bw.trans (hb2.mono bw.size)).setCell (p := ⟨w.heap.size + 1, 0, none⟩) (by simp) _ |>.setCell (p := ⟨w.heap.size + 1, 1, none⟩) (by simp) _)⟩

/-- The reference's Neg. -/
theorem rneg_z {w : World} {va : Value} {x : Bool} {la : List Nat} (hA : Wh w va x la) (ha : Norm la) :
    Calls Try.prog 45 #[va] w fun e w' => ∃ v, e = .returned v ∧ WhZ w' v (-(zv x la)) ∧ Below w.heap.size w w' := by
  obtain ⟨A, ca, rfl, sa⟩ := hA
  refine (rneg_any x la A _ ca w sa rfl).mono ?_
  rintro e w' ⟨rfl, h1, h2⟩
  have e : digs (val la) = la := ha.2
  refine ⟨_, rfl, ?_, h2⟩
  have := signed_z (w := w') (x := !x) (m := val la) (z := -(zv x la)) (A := A) (c := ca) (by unfold zv; cases x <;> simp) (by rw [e]; exact h1)
  rwa [e] at this

set_option maxRecDepth 100000 in
set_option maxHeartbeats 2000000 in
theorem rfits_any (b : Bool) (A : Option Addr) (n c : Nat) (w : World) (h0 : n ≤ 100000) :
    Calls Try.prog 43 #[.agg #[.bool b, .slice A n c]] w fun e w' => e = .returned (.tuple #[if n ≤ 1024 then .agg #[.bool b, .slice A n c] else .agg #[.bool false, .slice none 0 0], .int .i64 (if n ≤ 1024 then 0 else 3)]) ∧ Below w.heap.size w w' := by
  go_enter Try.func43, Try.ntmps43
  by_cases h : n ≤ 1024
  · have hn1 : ¬ (1024 : Int) < (n : Int) := by omega
    rw [if_pos h, if_pos h]
    go_wp2
    have d4 : Blk ((w.alloc (.cells #[.bool b, .slice A n c] 26)).alloc (.cells #[.bool b, .slice A n c] 26)) (w.heap.size + 1) 26 #[.bool b, .slice A n c] := by
      have := Blk.new (w.alloc (.cells #[.bool b, .slice A n c] 26)) 26 #[.bool b, .slice A n c]
      rwa [World.size_alloc] at this
    have r0 := (d4.cell 0).trans (b := some (Value.bool b)) rfl
    have r1 := (d4.cell 1).trans (b := some (Value.slice A n c)) rfl
    exact bodyPost_ret (v := .tuple #[.agg #[.bool b, .slice A n c], .int .i64 0]) (by simp [results, Try.f43, go_sem, r0, r1]) rfl ⟨rfl, (by repeat (first | exact Below.refl _ _ | assumption | refine Below.alloc ?_ (by first | (simp; done) | (simp; omega) | omega) _ | refine Below.setCell ?_ (by first | (simp; done) | (simp; omega) | omega) _ | refine Below.drew ?_))⟩
  · have hn1 : (1024 : Int) < (n : Int) := by omega
    rw [if_neg h, if_neg h]
    go_wp2
    have d4 : Blk ((w.alloc (.cells #[.bool b, .slice A n c] 26)).alloc (.cells #[.bool false, .slice none 0 0] 26)) (w.heap.size + 1) 26 #[.bool false, .slice none 0 0] := by
      have := Blk.new (w.alloc (.cells #[.bool b, .slice A n c] 26)) 26 #[.bool false, .slice none 0 0]
      rwa [World.size_alloc] at this
    have r0 := (d4.cell 0).trans (b := some (Value.bool false)) rfl
    have r1 := (d4.cell 1).trans (b := some (Value.slice none 0 0)) rfl
    exact bodyPost_ret (v := .tuple #[.agg #[.bool false, .slice none 0 0], .int .i64 3]) (by simp [results, Try.f43, go_sem, r0, r1]) rfl ⟨rfl, (by repeat (first | exact Below.refl _ _ | assumption | refine Below.alloc ?_ (by first | (simp; done) | (simp; omega) | omega) _ | refine Below.setCell ?_ (by first | (simp; done) | (simp; omega) | omega) _ | refine Below.drew ?_))⟩
end Go.Proofs.Ytgnidjhfiagfnaa

namespace Go.Proofs.Ytgnidjhfiagfnaa
open Go.RowKit

theorem rfits_z {w : World} {v : Value} {z : Int} (h : WhZ w v z) (hl : (digs z.natAbs).length ≤ 100000) :
    Calls Try.prog 43 #[v] w fun e w' => ∃ v', e = .returned (.tuple #[v', .int .i64 (code true z)]) ∧ WhZ w' v' (resz true z) ∧ Below w.heap.size w w' := by
  obtain ⟨A, c, rfl, hs⟩ := id h
  refine (rfits_any _ A _ c w hl).mono ?_
  rintro e w' ⟨rfl, hb⟩
  unfold code resz
  by_cases h1 : (digs z.natAbs).length ≤ 1024
  · rw [if_pos h1, if_pos h1, if_pos rfl, if_pos rfl, if_pos h1]
    exact ⟨_, rfl, h.below hb, hb⟩
  · rw [if_neg h1, if_neg h1, if_pos rfl, if_pos rfl, if_neg h1]
    exact ⟨_, rfl, whz_zero w', hb⟩

theorem rsum_zz {w : World} {va vb : Value} {x : Bool} {la : List Nat} {z : Int} (hA : Wh w va x la) (hB : WhZ w vb z) (ha : Norm la) (hla : la.length ≤ 4000) (hlb : (digs z.natAbs).length ≤ 4000) :
    Calls Try.prog 44 #[va, vb] w fun e w' => ∃ v, e = .returned v ∧ WhZ w' v (zv x la + z) ∧ Below w.heap.size w w' := by
  obtain ⟨B, cb, rfl, sb⟩ := hB
  have := rsum_z hA (wh_of_sl (x := decide (z < 0)) sb rfl) ha (norm_digs _) hla hlb
  rwa [zv_whz] at this

theorem lz_sum {x y : Bool} {la lb : List Nat} (h1 : Norm la ∧ la.length ≤ 1024 ∧ (x = true → val la ≠ 0)) (h2 : Norm lb ∧ lb.length ≤ 1024 ∧ (y = true → val lb ≠ 0)) : (digs (zv x la + zv y lb).natAbs).length ≤ 1025 := by
  have a : Lz 1024 (zv x la) := by unfold Lz zv; cases x <;> simp <;> rw [h1.1.2] <;> exact h1.2.1
  have b : Lz 1024 (zv y lb) := by unfold Lz zv; cases y <;> simp <;> rw [h2.1.2] <;> exact h2.2.1
  exact a.add b
theorem lz_dif {x y : Bool} {la lb : List Nat} (h1 : Norm la ∧ la.length ≤ 1024 ∧ (x = true → val la ≠ 0)) (h2 : Norm lb ∧ lb.length ≤ 1024 ∧ (y = true → val lb ≠ 0)) : (digs (zv x la + -(zv y lb)).natAbs).length ≤ 1025 := by
  have a : Lz 1024 (zv x la) := by unfold Lz zv; cases x <;> simp <;> rw [h1.1.2] <;> exact h1.2.1
  have b : Lz 1024 (zv y lb) := by unfold Lz zv; cases y <;> simp <;> rw [h2.1.2] <;> exact h2.2.1
  exact a.add b.neg
theorem lz_prod {x y : Bool} {la lb : List Nat} (h1 : Norm la ∧ la.length ≤ 1024 ∧ (x = true → val la ≠ 0)) (h2 : Norm lb ∧ lb.length ≤ 1024 ∧ (y = true → val lb ≠ 0)) : (digs (zv x la * zv y lb).natAbs).length ≤ 2048 := by
  have a : Lz 1024 (zv x la) := by unfold Lz zv; cases x <;> simp <;> rw [h1.1.2] <;> exact h1.2.1
  have b : Lz 1024 (zv y lb) := by unfold Lz zv; cases y <;> simp <;> rw [h2.1.2] <;> exact h2.2.1
  exact a.mul b

set_option maxRecDepth 100000 in
set_option maxHeartbeats 2000000 in
theorem radd_bad1 (x y : Bool) (la lb : List Nat) (A B : Option Addr) (na nb ca cb : Nat) (w : World) (hsa : Sl w (.slice A na ca) la) (hsb : Sl w (.slice B nb cb) lb) (hna : Hid (la.length = na)) (_hnb : Hid (lb.length = nb)) (hv : validB x la = false) :
    Calls Try.prog 16 #[.agg #[.bool x, .slice A na ca], .agg #[.bool y, .slice B nb cb]] w fun e w' => e = .returned (.tuple #[.agg #[.bool false, .slice none 0 0], .int .i64 2]) ∧ Below w.heap.size w w' := by
  obtain ⟨W0, hW0, b0, b1, b2, bw⟩ := boxes3 w x y A B na nb ca cb
  have HW : Hid (((w.alloc (.cells #[.bool x, .slice A na ca] 26)).alloc (.cells #[.bool y, .slice B nb cb] 26)).alloc (.cells #[.bool false, .slice none 0 0] 26) = W0) := hW0
  clear hW0
  have S1 := hsa.below bw
  have S2 := hsb.below bw
  have V1 : Hid (Calls Try.prog 42 #[.agg #[.bool x, .slice A na ca]] W0 fun e w' => e = .returned (.bool (validB x la)) ∧ Below W0.heap.size W0 w') := rvalid_wh (wh_of_sl S1 hna)
  go_enter Try.func16, Try.ntmps16
  go_wp2_with fail
  rw [HW.out]
  refine V1.out.mono ?_
  clear V1
  rintro e w1 ⟨rfl, hb1⟩
  have bw1 := bw.trans (hb1.mono bw.size)
  have b0' := b0.below hb1 b0.lt
  have b1' := b1.below hb1 b1.lt
  have b2' := b2.below hb1 b2.lt
  replace S1 := S1.below hb1
  replace S2 := S2.below hb1
  clear hb1 bw b0 b1 b2
  rw [hv]
  have d2 := b2'
  have g4 := (d2.cell 0).trans (b := some (Value.bool false)) rfl
  have g5 := (d2.cell 1).trans (b := some (Value.slice none 0 0)) rfl
  have h4 := d2.frozen 0
  have h5 := d2.frozen 1
  have l4 := d2.lt
  go_wp2
  have d4 := (d2.set_ 0 (.bool false)).set_ 1 (.slice none 0 0)
  have r0 := (d4.cell 0).trans (b := some (Value.bool false)) rfl
  have r1 := (d4.cell 1).trans (b := some (Value.slice none 0 0)) rfl
  exact bodyPost_ret (v := .tuple #[.agg #[.bool false, .slice none 0 0], .int .i64 2]) (by simp [results, Try.f16, go_sem, r0, r1]) rfl
    ⟨rfl, ((bw1.setCell (p := ⟨w.heap.size + 2, 0, none⟩) (by simp) _).setCell (p := ⟨w.heap.size + 2, 1, none⟩) (by simp) _)⟩

set_option maxRecDepth 100000 in
set_option maxHeartbeats 2000000 in
theorem radd_bad2 (x y : Bool) (la lb : List Nat) (A B : Option Addr) (na nb ca cb : Nat) (w : World) (hsa : Sl w (.slice A na ca) la) (hsb : Sl w (.slice B nb cb) lb) (hna : Hid (la.length = na)) (hnb : Hid (lb.length = nb)) (hv : validB x la = true) (hv2 : validB y lb = false) :
    Calls Try.prog 16 #[.agg #[.bool x, .slice A na ca], .agg #[.bool y, .slice B nb cb]] w fun e w' => e = .returned (.tuple #[.agg #[.bool false, .slice none 0 0], .int .i64 2]) ∧ Below w.heap.size w w' := by
  obtain ⟨W0, hW0, b0, b1, b2, bw⟩ := boxes3 w x y A B na nb ca cb
  have HW : Hid (((w.alloc (.cells #[.bool x, .slice A na ca] 26)).alloc (.cells #[.bool y, .slice B nb cb] 26)).alloc (.cells #[.bool false, .slice none 0 0] 26) = W0) := hW0
  clear hW0
  have S1 := hsa.below bw
  have S2 := hsb.below bw
  have V1 : Hid (Calls Try.prog 42 #[.agg #[.bool x, .slice A na ca]] W0 fun e w' => e = .returned (.bool (validB x la)) ∧ Below W0.heap.size W0 w') := rvalid_wh (wh_of_sl S1 hna)
  go_enter Try.func16, Try.ntmps16
  go_wp2_with fail
  rw [HW.out]
  refine V1.out.mono ?_
  clear V1
  rintro e w1 ⟨rfl, hb1⟩
  have bw1 := bw.trans (hb1.mono bw.size)
  have b0' := b0.below hb1 b0.lt
  have b1' := b1.below hb1 b1.lt
  have b2' := b2.below hb1 b2.lt
  replace S1 := S1.below hb1
  replace S2 := S2.below hb1
  clear hb1 bw b0 b1 b2
  rw [hv]
  have V2 : Hid (Calls Try.prog 42 #[.agg #[.bool y, .slice B nb cb]] w1 fun e w' => e = .returned (.bool (validB y lb)) ∧ Below w1.heap.size w1 w') := rvalid_wh (wh_of_sl S2 hnb)
  have q2 := (b1'.cell 0).trans (b := some (Value.bool y)) rfl
  have q3 := (b1'.cell 1).trans (b := some (Value.slice B nb cb)) rfl
  go_wp2_with fail
  clear q2 q3
  refine V2.out.mono ?_
  clear V2
  rintro e w2 ⟨rfl, hb2⟩
  have bw2 := bw1.trans (hb2.mono bw1.size)
  have b0 := b0'.below hb2 b0'.lt
  have b1 := b1'.below hb2 b1'.lt
  have b2 := b2'.below hb2 b2'.lt
  replace S1 := S1.below hb2
  replace S2 := S2.below hb2
  clear hb2 bw1 b0' b1' b2'
  rw [hv2]
  have d2 := b2
  have g4 := (d2.cell 0).trans (b := some (Value.bool false)) rfl
  have g5 := (d2.cell 1).trans (b := some (Value.slice none 0 0)) rfl
  have h4 := d2.frozen 0
  have h5 := d2.frozen 1
  have l4 := d2.lt
  go_wp2
  have d4 := (d2.set_ 0 (.bool false)).set_ 1 (.slice none 0 0)
  have r0 := (d4.cell 0).trans (b := some (Value.bool false)) rfl
  have r1 := (d4.cell 1).trans (b := some (Value.slice none 0 0)) rfl
  exact bodyPost_ret (v := .tuple #[.agg #[.bool false, .slice none 0 0], .int .i64 2]) (by simp [results, Try.f16, go_sem, r0, r1]) rfl
    ⟨rfl, ((bw2.setCell (p := ⟨w.heap.size + 2, 0, none⟩) (by simp) _).setCell (p := ⟨w.heap.size + 2, 1, none⟩) (by simp) _)⟩

set_option maxRecDepth 100000 in
set_option maxHeartbeats 2000000 in
theorem radd_ok (x y : Bool) (la lb : List Nat) (A B : Option Addr) (na nb ca cb : Nat) (w : World) (hsa : Sl w (.slice A na ca) la) (hsb : Sl w (.slice B nb cb) lb) (hna : Hid (la.length = na)) (hnb : Hid (lb.length = nb)) (hv : validB x la = true) (hv2 : validB y lb = true) :
    Calls Try.prog 16 #[.agg #[.bool x, .slice A na ca], .agg #[.bool y, .slice B nb cb]] w fun e w' => ∃ v, e = .returned (.tuple #[v, .int .i64 (code true (zv x la + zv y lb))]) ∧ WhZ w' v (resz true (zv x la + zv y lb)) ∧ Below w.heap.size w w' := by
  obtain ⟨W0, hW0, b0, b1, b2, bw⟩ := boxes3 w x y A B na nb ca cb
  have HW : Hid (((w.alloc (.cells #[.bool x, .slice A na ca] 26)).alloc (.cells #[.bool y, .slice B nb cb] 26)).alloc (.cells #[.bool false, .slice none 0 0] 26) = W0) := hW0
  clear hW0
  have S1 := hsa.below bw
  have S2 := hsb.below bw
  have V1 : Hid (Calls Try.prog 42 #[.agg #[.bool x, .slice A na ca]] W0 fun e w' => e = .returned (.bool (validB x la)) ∧ Below W0.heap.size W0 w') := rvalid_wh (wh_of_sl S1 hna)
  go_enter Try.func16, Try.ntmps16
  go_wp2_with fail
  rw [HW.out]
  refine V1.out.mono ?_
  clear V1
  rintro e w1 ⟨rfl, hb1⟩
  have bw1 := bw.trans (hb1.mono bw.size)
  have b0' := b0.below hb1 b0.lt
  have b1' := b1.below hb1 b1.lt
  have b2' := b2.below hb1 b2.lt
  replace S1 := S1.below hb1
  replace S2 := S2.below hb1
  clear hb1 bw b0 b1 b2
  rw [hv]
  have V2 : Hid (Calls Try.prog 42 #[.agg #[.bool y, .slice B nb cb]] w1 fun e w' => e = .returned (.bool (validB y lb)) ∧ Below w1.heap.size w1 w') := rvalid_wh (wh_of_sl S2 hnb)
  have q2 := (b1'.cell 0).trans (b := some (Value.bool y)) rfl
  have q3 := (b1'.cell 1).trans (b := some (Value.slice B nb cb)) rfl
  go_wp2_with fail
  clear q2 q3
  refine V2.out.mono ?_
  clear V2
  rintro e w2 ⟨rfl, hb2⟩
  have bw2 := bw1.trans (hb2.mono bw1.size)
  have b0 := b0'.below hb2 b0'.lt
  have b1 := b1'.below hb2 b1'.lt
  have b2 := b2'.below hb2 b2'.lt
  replace S1 := S1.below hb2
  replace S2 := S2.below hb2
  clear hb2 bw1 b0' b1' b2'
  rw [hv2]
  have n1 := valid_norm S1.1 hv
  have n2 := valid_norm S2.1 hv2
  have q0 := (b0.cell 0).trans (b := some (Value.bool x)) rfl
  have q1 := (b0.cell 1).trans (b := some (Value.slice A na ca)) rfl
  have q2 := (b1.cell 0).trans (b := some (Value.bool y)) rfl
  have q3 := (b1.cell 1).trans (b := some (Value.slice B nb cb)) rfl
  have C1 : Hid (Calls Try.prog 44 #[.agg #[.bool x, .slice A na ca], .agg #[.bool y, .slice B nb cb]] w2 _) := rsum_z (wh_of_sl S1 hna) (wh_of_sl S2 hnb) n1.1 n2.1 (Nat.le_trans n1.2.1 (by omega)) (Nat.le_trans n2.2.1 (by omega))
  have hz : (digs (zv x la + zv y lb).natAbs).length ≤ 100000 := Nat.le_trans (lz_sum n1 n2) (by omega)
  have HZ : Hid ((digs (zv x la + zv y lb).natAbs).length ≤ 100000) := hz
  clear hz n1 n2
  go_wp2_with fail
  refine C1.out.mono ?_
  clear C1 q0 q1 q2 q3
  rintro e w3 ⟨v, rfl, hz1, hb3⟩
  go_wp2_with fail
  refine (rfits_z hz1 HZ.out).mono ?_
  rintro e w4 ⟨v', rfl, zr, hb4⟩
  have hb5 := hb3.trans (hb4.mono hb3.size)
  clear hz1 hb3 hb4
  obtain ⟨n', A', c', Hn', rfl, hs'⟩ := whz_len zr
  have d2 := b2.below hb5 b2.lt
  obtain ⟨sg, hsg⟩ : ∃ s, decide (resz true (zv x la + zv y lb) < 0) = s := ⟨_, rfl⟩
  rw [hsg] at zr ⊢
  clear hs'
  have HSG : Hid (decide (resz true (zv x la + zv y lb) < 0) = sg) := hsg
  clear hsg
  have g4 := (d2.cell 0).trans (b := some (Value.bool false)) rfl
  have g5 := (d2.cell 1).trans (b := some (Value.slice none 0 0)) rfl
  have h4 := d2.frozen 0
  have h5 := d2.frozen 1
  have l4 := d2.lt
  go_wp2
  have d4 := (d2.set_ 0 (.bool sg)).set_ 1 (.slice A' n' c')
  have r0 := (d4.cell 0).trans (b := some (Value.bool sg)) rfl
  have r1 := (d4.cell 1).trans (b := some (Value.slice A' n' c')) rfl
  obtain ⟨A2, c2, e2, hs2⟩ := zr
  have zr2 : WhZ _ (.agg #[.bool sg, .slice A' n' c']) (resz true (zv x la + zv y lb)) := ⟨A2, c2, e2, hs2.store2 d2 sg A' n' c'⟩
  exact bodyPost_ret (v := .tuple #[.agg #[.bool sg, .slice A' n' c'], .int .i64 (code true (zv x la + zv y lb))]) (by simp [results, Try.f16, go_sem, r0, r1]) rfl
    ⟨_, rfl, zr2, (((bw2.trans (hb5.mono bw2.size))).setCell (p := ⟨w.heap.size + 2, 0, none⟩) (by simp) _ |>.setCell (p := ⟨w.heap.size + 2, 1, none⟩) (by simp) _)⟩

set_option maxRecDepth 100000 in
set_option maxHeartbeats 2000000 in
theorem rmul_bad1 (x y : Bool) (la lb : List Nat) (A B : Option Addr) (na nb ca cb : Nat) (w : World) (hsa : Sl w (.slice A na ca) la) (hsb : Sl w (.slice B nb cb) lb) (hna : Hid (la.length = na)) (_hnb : Hid (lb.length = nb)) (hv : validB x la = false) :
    Calls Try.prog 18 #[.agg #[.bool x, .slice A na ca], .agg #[.bool y, .slice B nb cb]] w fun e w' => e = .returned (.tuple #[.agg #[.bool false, .slice none 0 0], .int .i64 2]) ∧ Below w.heap.size w w' := by
  obtain ⟨W0, hW0, b0, b1, b2, bw⟩ := boxes3 w x y A B na nb ca cb
  have HW : Hid (((w.alloc (.cells #[.bool x, .slice A na ca] 26)).alloc (.cells #[.bool y, .slice B nb cb] 26)).alloc (.cells #[.bool false, .slice none 0 0] 26) = W0) := hW0
  clear hW0
  have S1 := hsa.below bw
  have S2 := hsb.below bw
  have V1 : Hid (Calls Try.prog 42 #[.agg #[.bool x, .slice A na ca]] W0 fun e w' => e = .returned (.bool (validB x la)) ∧ Below W0.heap.size W0 w') := rvalid_wh (wh_of_sl S1 hna)
  go_enter Try.func18, Try.ntmps18
  go_wp2_with fail
  rw [HW.out]
  refine V1.out.mono ?_
  clear V1
  rintro e w1 ⟨rfl, hb1⟩
  have bw1 := bw.trans (hb1.mono bw.size)
  have b0' := b0.below hb1 b0.lt
  have b1' := b1.below hb1 b1.lt
  have b2' := b2.below hb1 b2.lt
  replace S1 := S1.below hb1
  replace S2 := S2.below hb1
  clear hb1 bw b0 b1 b2
  rw [hv]
  have d2 := b2'
  have g4 := (d2.cell 0).trans (b := some (Value.bool false)) rfl
  have g5 := (d2.cell 1).trans (b := some (Value.slice none 0 0)) rfl
  have h4 := d2.frozen 0
  have h5 := d2.frozen 1
  have l4 := d2.lt
  go_wp2
  have d4 := (d2.set_ 0 (.bool false)).set_ 1 (.slice none 0 0)
  have r0 := (d4.cell 0).trans (b := some (Value.bool false)) rfl
  have r1 := (d4.cell 1).trans (b := some (Value.slice none 0 0)) rfl
  exact bodyPost_ret (v := .tuple #[.agg #[.bool false, .slice none 0 0], .int .i64 2]) (by simp [results, Try.f18, go_sem, r0, r1]) rfl
    ⟨rfl, ((bw1.setCell (p := ⟨w.heap.size + 2, 0, none⟩) (by simp) _).setCell (p := ⟨w.heap.size + 2, 1, none⟩) (by simp) _)⟩

set_option maxRecDepth 100000 in
set_option maxHeartbeats 2000000 in
theorem rmul_bad2 (x y : Bool) (la lb : List Nat) (A B : Option Addr) (na nb ca cb : Nat) (w : World) (hsa : Sl w (.slice A na ca) la) (hsb : Sl w (.slice B nb cb) lb) (hna : Hid (la.length = na)) (hnb : Hid (lb.length = nb)) (hv : validB x la = true) (hv2 : validB y lb = false) :
    Calls Try.prog 18 #[.agg #[.bool x, .slice A na ca], .agg #[.bool y, .slice B nb cb]] w fun e w' => e = .returned (.tuple #[.agg #[.bool false, .slice none 0 0], .int .i64 2]) ∧ Below w.heap.size w w' := by
  obtain ⟨W0, hW0, b0, b1, b2, bw⟩ := boxes3 w x y A B na nb ca cb
  have HW : Hid (((w.alloc (.cells #[.bool x, .slice A na ca] 26)).alloc (.cells #[.bool y, .slice B nb cb] 26)).alloc (.cells #[.bool false, .slice none 0 0] 26) = W0) := hW0
  clear hW0
  have S1 := hsa.below bw
  have S2 := hsb.below bw
  have V1 : Hid (Calls Try.prog 42 #[.agg #[.bool x, .slice A na ca]] W0 fun e w' => e = .returned (.bool (validB x la)) ∧ Below W0.heap.size W0 w') := rvalid_wh (wh_of_sl S1 hna)
  go_enter Try.func18, Try.ntmps18
  go_wp2_with fail
  rw [HW.out]
  refine V1.out.mono ?_
  clear V1
  rintro e w1 ⟨rfl, hb1⟩
  have bw1 := bw.trans (hb1.mono bw.size)
  have b0' := b0.below hb1 b0.lt
  have b1' := b1.below hb1 b1.lt
  have b2' := b2.below hb1 b2.lt
  replace S1 := S1.below hb1
  replace S2 := S2.below hb1
  clear hb1 bw b0 b1 b2
  rw [hv]
  have V2 : Hid (Calls Try.prog 42 #[.agg #[.bool y, .slice B nb cb]] w1 fun e w' => e = .returned (.bool (validB y lb)) ∧ Below w1.heap.size w1 w') := rvalid_wh (wh_of_sl S2 hnb)
  have q2 := (b1'.cell 0).trans (b := some (Value.bool y)) rfl
  have q3 := (b1'.cell 1).trans (b := some (Value.slice B nb cb)) rfl
  go_wp2_with fail
  clear q2 q3
  refine V2.out.mono ?_
  clear V2
  rintro e w2 ⟨rfl, hb2⟩
  have bw2 := bw1.trans (hb2.mono bw1.size)
  have b0 := b0'.below hb2 b0'.lt
  have b1 := b1'.below hb2 b1'.lt
  have b2 := b2'.below hb2 b2'.lt
  replace S1 := S1.below hb2
  replace S2 := S2.below hb2
  clear hb2 bw1 b0' b1' b2'
  rw [hv2]
  have d2 := b2
  have g4 := (d2.cell 0).trans (b := some (Value.bool false)) rfl
  have g5 := (d2.cell 1).trans (b := some (Value.slice none 0 0)) rfl
  have h4 := d2.frozen 0
  have h5 := d2.frozen 1
  have l4 := d2.lt
  go_wp2
  have d4 := (d2.set_ 0 (.bool false)).set_ 1 (.slice none 0 0)
  have r0 := (d4.cell 0).trans (b := some (Value.bool false)) rfl
  have r1 := (d4.cell 1).trans (b := some (Value.slice none 0 0)) rfl
  exact bodyPost_ret (v := .tuple #[.agg #[.bool false, .slice none 0 0], .int .i64 2]) (by simp [results, Try.f18, go_sem, r0, r1]) rfl
    ⟨rfl, ((bw2.setCell (p := ⟨w.heap.size + 2, 0, none⟩) (by simp) _).setCell (p := ⟨w.heap.size + 2, 1, none⟩) (by simp) _)⟩

set_option maxRecDepth 100000 in
set_option maxHeartbeats 2000000 in
theorem rmul_ok (x y : Bool) (la lb : List Nat) (A B : Option Addr) (na nb ca cb : Nat) (w : World) (hsa : Sl w (.slice A na ca) la) (hsb : Sl w (.slice B nb cb) lb) (hna : Hid (la.length = na)) (hnb : Hid (lb.length = nb)) (hv : validB x la = true) (hv2 : validB y lb = true) :
    Calls Try.prog 18 #[.agg #[.bool x, .slice A na ca], .agg #[.bool y, .slice B nb cb]] w fun e w' => ∃ v, e = .returned (.tuple #[v, .int .i64 (code true (zv x la * zv y lb))]) ∧ WhZ w' v (resz true (zv x la * zv y lb)) ∧ Below w.heap.size w w' := by
  obtain ⟨W0, hW0, b0, b1, b2, bw⟩ := boxes3 w x y A B na nb ca cb
  have HW : Hid (((w.alloc (.cells #[.bool x, .slice A na ca] 26)).alloc (.cells #[.bool y, .slice B nb cb] 26)).alloc (.cells #[.bool false, .slice none 0 0] 26) = W0) := hW0
  clear hW0
  have S1 := hsa.below bw
  have S2 := hsb.below bw
  have V1 : Hid (Calls Try.prog 42 #[.agg #[.bool x, .slice A na ca]] W0 fun e w' => e = .returned (.bool (validB x la)) ∧ Below W0.heap.size W0 w') := rvalid_wh (wh_of_sl S1 hna)
  go_enter Try.func18, Try.ntmps18
  go_wp2_with fail
  rw [HW.out]
  refine V1.out.mono ?_
  clear V1
  rintro e w1 ⟨rfl, hb1⟩
  have bw1 := bw.trans (hb1.mono bw.size)
  have b0' := b0.below hb1 b0.lt
  have b1' := b1.below hb1 b1.lt
  have b2' := b2.below hb1 b2.lt
  replace S1 := S1.below hb1
  replace S2 := S2.below hb1
  clear hb1 bw b0 b1 b2
  rw [hv]
  have V2 : Hid (Calls Try.prog 42 #[.agg #[.bool y, .slice B nb cb]] w1 fun e w' => e = .returned (.bool (validB y lb)) ∧ Below w1.heap.size w1 w') := rvalid_wh (wh_of_sl S2 hnb)
  have q2 := (b1'.cell 0).trans (b := some (Value.bool y)) rfl
  have q3 := (b1'.cell 1).trans (b := some (Value.slice B nb cb)) rfl
  go_wp2_with fail
  clear q2 q3
  refine V2.out.mono ?_
  clear V2
  rintro e w2 ⟨rfl, hb2⟩
  have bw2 := bw1.trans (hb2.mono bw1.size)
  have b0 := b0'.below hb2 b0'.lt
  have b1 := b1'.below hb2 b1'.lt
  have b2 := b2'.below hb2 b2'.lt
  replace S1 := S1.below hb2
  replace S2 := S2.below hb2
  clear hb2 bw1 b0' b1' b2'
  rw [hv2]
  have n1 := valid_norm S1.1 hv
  have n2 := valid_norm S2.1 hv2
  have q0 := (b0.cell 0).trans (b := some (Value.bool x)) rfl
  have q1 := (b0.cell 1).trans (b := some (Value.slice A na ca)) rfl
  have q2 := (b1.cell 0).trans (b := some (Value.bool y)) rfl
  have q3 := (b1.cell 1).trans (b := some (Value.slice B nb cb)) rfl
  have C1 : Hid (Calls Try.prog 46 #[.agg #[.bool x, .slice A na ca], .agg #[.bool y, .slice B nb cb]] w2 _) := rprod_z (wh_of_sl S1 hna) (wh_of_sl S2 hnb) n1.1 n2.1 (Nat.le_trans n1.2.1 (by omega)) (Nat.le_trans n2.2.1 (by omega))
  have hz : (digs (zv x la * zv y lb).natAbs).length ≤ 100000 := Nat.le_trans (lz_prod n1 n2) (by omega)
  have HZ : Hid ((digs (zv x la * zv y lb).natAbs).length ≤ 100000) := hz
  clear hz n1 n2
  go_wp2_with fail
  refine C1.out.mono ?_
  clear C1 q0 q1 q2 q3
  rintro e w3 ⟨v, rfl, hz1, hb3⟩
  go_wp2_with fail
  refine (rfits_z hz1 HZ.out).mono ?_
  rintro e w4 ⟨v', rfl, zr, hb4⟩
  have hb5 := hb3.trans (hb4.mono hb3.size)
  clear hz1 hb3 hb4
  obtain ⟨n', A', c', Hn', rfl, hs'⟩ := whz_len zr
  have d2 := b2.below hb5 b2.lt
  obtain ⟨sg, hsg⟩ : ∃ s, decide (resz true (zv x la * zv y lb) < 0) = s := ⟨_, rfl⟩
  rw [hsg] at zr ⊢
  clear hs'
  have HSG : Hid (decide (resz true (zv x la * zv y lb) < 0) = sg) := hsg
  clear hsg
  have g4 := (d2.cell 0).trans (b := some (Value.bool false)) rfl
  have g5 := (d2.cell 1).trans (b := some (Value.slice none 0 0)) rfl
  have h4 := d2.frozen 0
  have h5 := d2.frozen 1
  have l4 := d2.lt
  go_wp2
  have d4 := (d2.set_ 0 (.bool sg)).set_ 1 (.slice A' n' c')
  have r0 := (d4.cell 0).trans (b := some (Value.bool sg)) rfl
  have r1 := (d4.cell 1).trans (b := some (Value.slice A' n' c')) rfl
  obtain ⟨A2, c2, e2, hs2⟩ := zr
  have zr2 : WhZ _ (.agg #[.bool sg, .slice A' n' c']) (resz true (zv x la * zv y lb)) := ⟨A2, c2, e2, hs2.store2 d2 sg A' n' c'⟩
  exact bodyPost_ret (v := .tuple #[.agg #[.bool sg, .slice A' n' c'], .int .i64 (code true (zv x la * zv y lb))]) (by simp [results, Try.f18, go_sem, r0, r1]) rfl
    ⟨_, rfl, zr2, (((bw2.trans (hb5.mono bw2.size))).setCell (p := ⟨w.heap.size + 2, 0, none⟩) (by simp) _ |>.setCell (p := ⟨w.heap.size + 2, 1, none⟩) (by simp) _)⟩

set_option maxRecDepth 100000 in
set_option maxHeartbeats 2000000 in
theorem rsub_bad1 (x y : Bool) (la lb : List Nat) (A B : Option Addr) (na nb ca cb : Nat) (w : World) (hsa : Sl w (.slice A na ca) la) (hsb : Sl w (.slice B nb cb) lb) (hna : Hid (la.length = na)) (_hnb : Hid (lb.length = nb)) (hv : validB x la = false) :
    Calls Try.prog 17 #[.agg #[.bool x, .slice A na ca], .agg #[.bool y, .slice B nb cb]] w fun e w' => e = .returned (.tuple #[.agg #[.bool false, .slice none 0 0], .int .i64 2]) ∧ Below w.heap.size w w' := by
  obtain ⟨W0, hW0, b0, b1, b2, bw⟩ := boxes3 w x y A B na nb ca cb
  have HW : Hid (((w.alloc (.cells #[.bool x, .slice A na ca] 26)).alloc (.cells #[.bool y, .slice B nb cb] 26)).alloc (.cells #[.bool false, .slice none 0 0] 26) = W0) := hW0
  clear hW0
  have S1 := hsa.below bw
  have S2 := hsb.below bw
  have V1 : Hid (Calls Try.prog 42 #[.agg #[.bool x, .slice A na ca]] W0 fun e w' => e = .returned (.bool (validB x la)) ∧ Below W0.heap.size W0 w') := rvalid_wh (wh_of_sl S1 hna)
  go_enter Try.func17, Try.ntmps17
  go_wp2_with fail
  rw [HW.out]
  refine V1.out.mono ?_
  clear V1
  rintro e w1 ⟨rfl, hb1⟩
  have bw1 := bw.trans (hb1.mono bw.size)
  have b0' := b0.below hb1 b0.lt
  have b1' := b1.below hb1 b1.lt
  have b2' := b2.below hb1 b2.lt
  replace S1 := S1.below hb1
  replace S2 := S2.below hb1
  clear hb1 bw b0 b1 b2
  rw [hv]
  have d2 := b2'
  have g4 := (d2.cell 0).trans (b := some (Value.bool false)) rfl
  have g5 := (d2.cell 1).trans (b := some (Value.slice none 0 0)) rfl
  have h4 := d2.frozen 0
  have h5 := d2.frozen 1
  have l4 := d2.lt
  go_wp2
  have d4 := (d2.set_ 0 (.bool false)).set_ 1 (.slice none 0 0)
  have r0 := (d4.cell 0).trans (b := some (Value.bool false)) rfl
  have r1 := (d4.cell 1).trans (b := some (Value.slice none 0 0)) rfl
  exact bodyPost_ret (v := .tuple #[.agg #[.bool false, .slice none 0 0], .int .i64 2]) (by simp [results, Try.f17, go_sem, r0, r1]) rfl
    ⟨rfl, ((bw1.setCell (p := ⟨w.heap.size + 2, 0, none⟩) (by simp) _).setCell (p := ⟨w.heap.size + 2, 1, none⟩) (by simp) _)⟩

set_option maxRecDepth 100000 in
set_option maxHeartbeats 2000000 in
theorem rsub_bad2 (x y : Bool) (la lb : List Nat) (A B : Option Addr) (na nb ca cb : Nat) (w : World) (hsa : Sl w (.slice A na ca) la) (hsb : Sl w (.slice B nb cb) lb) (hna : Hid (la.length = na)) (hnb : Hid (lb.length = nb)) (hv : validB x la = true) (hv2 : validB y lb = false) :
    Calls Try.prog 17 #[.agg #[.bool x, .slice A na ca], .agg #[.bool y, .slice B nb cb]] w fun e w' => e = .returned (.tuple #[.agg #[.bool false, .slice none 0 0], .int .i64 2]) ∧ Below w.heap.size w w' := by
  obtain ⟨W0, hW0, b0, b1, b2, bw⟩ := boxes3 w x y A B na nb ca cb
  have HW : Hid (((w.alloc (.cells #[.bool x, .slice A na ca] 26)).alloc (.cells #[.bool y, .slice B nb cb] 26)).alloc (.cells #[.bool false, .slice none 0 0] 26) = W0) := hW0
  clear hW0
  have S1 := hsa.below bw
  have S2 := hsb.below bw
  have V1 : Hid (Calls Try.prog 42 #[.agg #[.bool x, .slice A na ca]] W0 fun e w' => e = .returned (.bool (validB x la)) ∧ Below W0.heap.size W0 w') := rvalid_wh (wh_of_sl S1 hna)
  go_enter Try.func17, Try.ntmps17
  go_wp2_with fail
  rw [HW.out]
  refine V1.out.mono ?_
  clear V1
  rintro e w1 ⟨rfl, hb1⟩
  have bw1 := bw.trans (hb1.mono bw.size)
  have b0' := b0.below hb1 b0.lt
  have b1' := b1.below hb1 b1.lt
  have b2' := b2.below hb1 b2.lt
  replace S1 := S1.below hb1
  replace S2 := S2.below hb1
  clear hb1 bw b0 b1 b2
  rw [hv]
  have V2 : Hid (Calls Try.prog 42 #[.agg #[.bool y, .slice B nb cb]] w1 fun e w' => e = .returned (.bool (validB y lb)) ∧ Below w1.heap.size w1 w') := rvalid_wh (wh_of_sl S2 hnb)
  have q2 := (b1'.cell 0).trans (b := some (Value.bool y)) rfl
  have q3 := (b1'.cell 1).trans (b := some (Value.slice B nb cb)) rfl
  go_wp2_with fail
  clear q2 q3
  refine V2.out.mono ?_
  clear V2
  rintro e w2 ⟨rfl, hb2⟩
  have bw2 := bw1.trans (hb2.mono bw1.size)
  have b0 := b0'.below hb2 b0'.lt
  have b1 := b1'.below hb2 b1'.lt
  have b2 := b2'.below hb2 b2'.lt
  replace S1 := S1.below hb2
  replace S2 := S2.below hb2
  clear hb2 bw1 b0' b1' b2'
  rw [hv2]
  have d2 := b2
  have g4 := (d2.cell 0).trans (b := some (Value.bool false)) rfl
  have g5 := (d2.cell 1).trans (b := some (Value.slice none 0 0)) rfl
  have h4 := d2.frozen 0
  have h5 := d2.frozen 1
  have l4 := d2.lt
  go_wp2
  have d4 := (d2.set_ 0 (.bool false)).set_ 1 (.slice none 0 0)
  have r0 := (d4.cell 0).trans (b := some (Value.bool false)) rfl
  have r1 := (d4.cell 1).trans (b := some (Value.slice none 0 0)) rfl
  exact bodyPost_ret (v := .tuple #[.agg #[.bool false, .slice none 0 0], .int .i64 2]) (by simp [results, Try.f17, go_sem, r0, r1]) rfl
    ⟨rfl, ((bw2.setCell (p := ⟨w.heap.size + 2, 0, none⟩) (by simp) _).setCell (p := ⟨w.heap.size + 2, 1, none⟩) (by simp) _)⟩

set_option maxRecDepth 100000 in
set_option maxHeartbeats 2000000 in
theorem rsub_ok (x y : Bool) (la lb : List Nat) (A B : Option Addr) (na nb ca cb : Nat) (w : World) (hsa : Sl w (.slice A na ca) la) (hsb : Sl w (.slice B nb cb) lb) (hna : Hid (la.length = na)) (hnb : Hid (lb.length = nb)) (hv : validB x la = true) (hv2 : validB y lb = true) :
    Calls Try.prog 17 #[.agg #[.bool x, .slice A na ca], .agg #[.bool y, .slice B nb cb]] w fun e w' => ∃ v, e = .returned (.tuple #[v, .int .i64 (code true (zv x la + -(zv y lb)))]) ∧ WhZ w' v (resz true (zv x la + -(zv y lb))) ∧ Below w.heap.size w w' := by
  obtain ⟨W0, hW0, b0, b1, b2, bw⟩ := boxes3 w x y A B na nb ca cb
  have HW : Hid (((w.alloc (.cells #[.bool x, .slice A na ca] 26)).alloc (.cells #[.bool y, .slice B nb cb] 26)).alloc (.cells #[.bool false, .slice none 0 0] 26) = W0) := hW0
  clear hW0
  have S1 := hsa.below bw
  have S2 := hsb.below bw
  have V1 : Hid (Calls Try.prog 42 #[.agg #[.bool x, .slice A na ca]] W0 fun e w' => e = .returned (.bool (validB x la)) ∧ Below W0.heap.size W0 w') := rvalid_wh (wh_of_sl S1 hna)
  go_enter Try.func17, Try.ntmps17
  go_wp2_with fail
  rw [HW.out]
  refine V1.out.mono ?_
  clear V1
  rintro e w1 ⟨rfl, hb1⟩
  have bw1 := bw.trans (hb1.mono bw.size)
  have b0' := b0.below hb1 b0.lt
  have b1' := b1.below hb1 b1.lt
  have b2' := b2.below hb1 b2.lt
  replace S1 := S1.below hb1
  replace S2 := S2.below hb1
  clear hb1 bw b0 b1 b2
  rw [hv]
  have V2 : Hid (Calls Try.prog 42 #[.agg #[.bool y, .slice B nb cb]] w1 fun e w' => e = .returned (.bool (validB y lb)) ∧ Below w1.heap.size w1 w') := rvalid_wh (wh_of_sl S2 hnb)
  have q2 := (b1'.cell 0).trans (b := some (Value.bool y)) rfl
  have q3 := (b1'.cell 1).trans (b := some (Value.slice B nb cb)) rfl
  go_wp2_with fail
  clear q2 q3
  refine V2.out.mono ?_
  clear V2
  rintro e w2 ⟨rfl, hb2⟩
  have bw2 := bw1.trans (hb2.mono bw1.size)
  have b0 := b0'.below hb2 b0'.lt
  have b1 := b1'.below hb2 b1'.lt
  have b2 := b2'.below hb2 b2'.lt
  replace S1 := S1.below hb2
  replace S2 := S2.below hb2
  clear hb2 bw1 b0' b1' b2'
  rw [hv2]
  have n1 := valid_norm S1.1 hv
  have n2 := valid_norm S2.1 hv2
  have q0 := (b0.cell 0).trans (b := some (Value.bool x)) rfl
  have q1 := (b0.cell 1).trans (b := some (Value.slice A na ca)) rfl
  have q2 := (b1.cell 0).trans (b := some (Value.bool y)) rfl
  have q3 := (b1.cell 1).trans (b := some (Value.slice B nb cb)) rfl
  have hz : (digs (zv x la + -(zv y lb)).natAbs).length ≤ 100000 := Nat.le_trans (lz_dif n1 n2) (by omega)
  have HZ : Hid ((digs (zv x la + -(zv y lb)).natAbs).length ≤ 100000) := hz
  have C1 : Hid (Calls Try.prog 45 #[.agg #[.bool y, .slice B nb cb]] w2.drew _) := rneg_z (w := w2.drew) (wh_of_sl S2 hnb) n2.1
  have lzb : Lz 1024 (zv y lb) := by unfold Lz zv; cases y <;> simp <;> rw [n2.1.2] <;> exact n2.2.1
  have NZ : Hid (Norm la ∧ la.length ≤ 1024 ∧ Lz 1024 (-(zv y lb))) := ⟨n1.1, n1.2.1, lzb.neg⟩
  clear lzb
  clear hz n1 n2 q0 q1 q2 q3
  have L0 := b0.lt
  have L1 := b1.lt
  have L2 := b2.lt
  have c1 : w2.cell? ⟨w.heap.size, 0, none⟩ = some (.bool x) := (b0.cell 0).trans rfl
  have c2 : w2.cell? ⟨w.heap.size, 1, none⟩ = some (.slice A na ca) := (b0.cell 1).trans rfl
  have c3 : w2.cell? ⟨w.heap.size + 1, 0, none⟩ = some (.bool y) := (b1.cell 0).trans rfl
  have c4 : w2.cell? ⟨w.heap.size + 1, 1, none⟩ = some (.slice B nb cb) := (b1.cell 1).trans rfl
  go_wp2_with fail
  go_region_held3 (fun w' => w'.cell? ⟨w.heap.size, 0, none⟩ = some (.bool x) ∧ w'.cell? ⟨w.heap.size, 1, none⟩ = some (.slice A na ca) ∧ w'.cell? ⟨w.heap.size + 1, 0, none⟩ = some (.bool y) ∧ w'.cell? ⟨w.heap.size + 1, 1, none⟩ = some (.slice B nb cb))
    (first | exact ⟨c1, c2, c3, c4⟩ | exact ⟨k1, k2, k3, k4⟩ | exact ⟨m1, m2, m3, m4⟩ | exact ⟨n1, n2, n3, n4⟩ | (refine ⟨?_, ?_, ?_, ?_⟩ <;> (simp [go_sem, n1, n2, n3, n4]; done)))
    (first | (go_at_call 45; refine (C1.out).mono ?_; rintro e w3 ⟨vn, rfl, zn, hbx⟩; have hb3 := below_of_drew hbx; clear hbx; have S3 := S1.below hb3; have k1 := (hb3.cell (p := ⟨w.heap.size, 0, none⟩) L0).trans c1; have k2 := (hb3.cell (p := ⟨w.heap.size, 1, none⟩) L0).trans c2; have k3 := (hb3.cell (p := ⟨w.heap.size + 1, 0, none⟩) L1).trans c3; have k4 := (hb3.cell (p := ⟨w.heap.size + 1, 1, none⟩) L1).trans c4) | (go_at_call 44; refine (rsum_zz (wh_of_sl S3 hna) zn NZ.out.1 (Nat.le_trans NZ.out.2.1 (by omega)) (Nat.le_trans NZ.out.2.2 (by omega))).mono ?_; rintro e w4 ⟨v, rfl, hz1, hb4⟩; have hb5 := hb3.trans (hb4.mono hb3.size); have m1 := (hb4.cell (p := ⟨w.heap.size, 0, none⟩) (Nat.lt_of_lt_of_le L0 hb3.size)).trans k1; have m2 := (hb4.cell (p := ⟨w.heap.size, 1, none⟩) (Nat.lt_of_lt_of_le L0 hb3.size)).trans k2; have m3 := (hb4.cell (p := ⟨w.heap.size + 1, 0, none⟩) (Nat.lt_of_lt_of_le L1 hb3.size)).trans k3; have m4 := (hb4.cell (p := ⟨w.heap.size + 1, 1, none⟩) (Nat.lt_of_lt_of_le L1 hb3.size)).trans k4) | (go_at_call 43; refine (rfits_z hz1 HZ.out).mono ?_; rintro e w5 ⟨v', rfl, zr, hb6⟩; have hb7 := hb5.trans (hb6.mono hb5.size); have n1 := (hb6.cell (p := ⟨w.heap.size, 0, none⟩) (Nat.lt_of_lt_of_le L0 hb5.size)).trans m1; have n2 := (hb6.cell (p := ⟨w.heap.size, 1, none⟩) (Nat.lt_of_lt_of_le L0 hb5.size)).trans m2; have n3 := (hb6.cell (p := ⟨w.heap.size + 1, 0, none⟩) (Nat.lt_of_lt_of_le L1 hb5.size)).trans m3; have n4 := (hb6.cell (p := ⟨w.heap.size + 1, 1, none⟩) (Nat.lt_of_lt_of_le L1 hb5.size)).trans m4; obtain ⟨n', A', c', Hn', rfl, hs'⟩ := whz_len zr; have d2 := b2.below hb7 b2.lt; obtain ⟨sg, hsg⟩ : ∃ s, decide (resz true (zv x la + -(zv y lb)) < 0) = s := ⟨_, rfl⟩; rw [hsg] at zr ⊢; clear hs'; have HSG : Hid (decide (resz true (zv x la + -(zv y lb)) < 0) = sg) := hsg; clear hsg; have g4 := (d2.cell 0).trans (b := some (Value.bool false)) rfl; have g5 := (d2.cell 1).trans (b := some (Value.slice none 0 0)) rfl; have h4 := d2.frozen 0; have h5 := d2.frozen 1; have l4 := d2.lt))
  go_wp2
  have d4 := (d2.set_ 0 (.bool sg)).set_ 1 (.slice A' n' c')
  have r0 := (d4.cell 0).trans (b := some (Value.bool sg)) rfl
  have r1 := (d4.cell 1).trans (b := some (Value.slice A' n' c')) rfl
  obtain ⟨A2, c2, e2, hs2⟩ := zr
  have zr2 : WhZ _ (.agg #[.bool sg, .slice A' n' c']) (resz true (zv x la + -(zv y lb))) := ⟨A2, c2, e2, hs2.store2 d2 sg A' n' c'⟩
  exact bodyPost_ret (v := .tuple #[.agg #[.bool sg, .slice A' n' c'], .int .i64 (code true (zv x la + -(zv y lb)))]) (by simp [results, Try.f17, go_sem, r0, r1]) rfl
    ⟨_, rfl, zr2, (((bw2.trans (hb7.mono bw2.size))).setCell (p := ⟨w.heap.size + 2, 0, none⟩) (by simp) _ |>.setCell (p := ⟨w.heap.size + 2, 1, none⟩) (by simp) _)⟩

end Go.Proofs.Ytgnidjhfiagfnaa

namespace Go.Proofs.Ytgnidjhfiagfnaa
open Go.RowKit

theorem radd_wh {w : World} {va vb : Value} {x y : Bool} {la lb : List Nat} (hA : Wh w va x la) (hB : Wh w vb y lb) :
    Calls Try.prog 16 #[va, vb] w fun e w' => ∃ v, e = .returned (.tuple #[v, .int .i64 (code (validB x la && validB y lb) (zv x la + zv y lb))]) ∧ WhZ w' v (resz (validB x la && validB y lb) (zv x la + zv y lb)) ∧ Below w.heap.size w w' := by
  obtain ⟨A, ca, rfl, sa⟩ := hA
  obtain ⟨B, cb, rfl, sb⟩ := hB
  cases h1 : validB x la with
  | false =>
    refine (radd_bad1 x y la lb A B _ _ ca cb w sa sb rfl rfl h1).mono ?_
    rintro e w' ⟨rfl, h⟩
    exact ⟨_, rfl, whz_zero w', h⟩
  | true =>
    cases h2 : validB y lb with
    | false =>
      refine (radd_bad2 x y la lb A B _ _ ca cb w sa sb rfl rfl h1 h2).mono ?_
      rintro e w' ⟨rfl, h⟩
      exact ⟨_, rfl, whz_zero w', h⟩
    | true => exact radd_ok x y la lb A B _ _ ca cb w sa sb rfl rfl h1 h2

theorem rmul_wh {w : World} {va vb : Value} {x y : Bool} {la lb : List Nat} (hA : Wh w va x la) (hB : Wh w vb y lb) :
    Calls Try.prog 18 #[va, vb] w fun e w' => ∃ v, e = .returned (.tuple #[v, .int .i64 (code (validB x la && validB y lb) (zv x la * zv y lb))]) ∧ WhZ w' v (resz (validB x la && validB y lb) (zv x la * zv y lb)) ∧ Below w.heap.size w w' := by
  obtain ⟨A, ca, rfl, sa⟩ := hA
  obtain ⟨B, cb, rfl, sb⟩ := hB
  cases h1 : validB x la with
  | false =>
    refine (rmul_bad1 x y la lb A B _ _ ca cb w sa sb rfl rfl h1).mono ?_
    rintro e w' ⟨rfl, h⟩
    exact ⟨_, rfl, whz_zero w', h⟩
  | true =>
    cases h2 : validB y lb with
    | false =>
      refine (rmul_bad2 x y la lb A B _ _ ca cb w sa sb rfl rfl h1 h2).mono ?_
      rintro e w' ⟨rfl, h⟩
      exact ⟨_, rfl, whz_zero w', h⟩
    | true => exact rmul_ok x y la lb A B _ _ ca cb w sa sb rfl rfl h1 h2

theorem rsub_wh {w : World} {va vb : Value} {x y : Bool} {la lb : List Nat} (hA : Wh w va x la) (hB : Wh w vb y lb) :
    Calls Try.prog 17 #[va, vb] w fun e w' => ∃ v, e = .returned (.tuple #[v, .int .i64 (code (validB x la && validB y lb) (zv x la - zv y lb))]) ∧ WhZ w' v (resz (validB x la && validB y lb) (zv x la - zv y lb)) ∧ Below w.heap.size w w' := by
  rw [Int.sub_eq_add_neg]
  obtain ⟨A, ca, rfl, sa⟩ := hA
  obtain ⟨B, cb, rfl, sb⟩ := hB
  cases h1 : validB x la with
  | false =>
    refine (rsub_bad1 x y la lb A B _ _ ca cb w sa sb rfl rfl h1).mono ?_
    rintro e w' ⟨rfl, h⟩
    exact ⟨_, rfl, whz_zero w', h⟩
  | true =>
    cases h2 : validB y lb with
    | false =>
      refine (rsub_bad2 x y la lb A B _ _ ca cb w sa sb rfl rfl h1 h2).mono ?_
      rintro e w' ⟨rfl, h⟩
      exact ⟨_, rfl, whz_zero w', h⟩
    | true => exact rsub_ok x y la lb A B _ _ ca cb w sa sb rfl rfl h1 h2

set_option maxRecDepth 100000 in
set_option maxHeartbeats 2000000 in
theorem pick_any (x : Int) (n : Nat) (w : World) (_h0 : -9223372036854775808 ≤ x) (_h1 : x ≤ 9223372036854775807) (hn : 1 ≤ n) (hn2 : n ≤ 100000) :
    Calls Try.prog 12 #[.int .i64 x, .int .i64 n] w fun e w' => ∃ r : Nat, e = .returned (.int .i64 r) ∧ r < n ∧ w = w' := by
  obtain ⟨t, ht⟩ : ∃ t, x.tmod n = t := ⟨_, rfl⟩
  have b1 : t < n := by rw [← ht]; exact Int.tmod_lt_of_pos x (by omega)
  have b2 : -t < n := by rw [← ht, ← Int.neg_tmod]; exact Int.tmod_lt_of_pos (-x) (by omega)
  go_enter Try.func12, Try.ntmps12
  by_cases h : t < 0
  · obtain ⟨r, hr⟩ : ∃ r : Nat, t + n = (r : Int) := ⟨(t + n).toNat, by omega⟩
    go_wp2
    go_ret
    exact ⟨r, rfl, by omega, rfl⟩
  · obtain ⟨r, hr⟩ : ∃ r : Nat, t = (r : Int) := ⟨t.toNat, by omega⟩
    subst hr
    go_wp2
    go_ret
    exact ⟨r, rfl, by omega, rfl⟩

set_option maxRecDepth 100000 in
set_option maxHeartbeats 2000000 in
theorem sameL_any (x y : Bool) (A B : Option Addr) (na nb ca cb : Nat) (e : Int) (w : World) (H : Hid (∀ W, Below w.heap.size w W → Calls Try.prog 47 #[.agg #[.bool x, .slice A na ca], .agg #[.bool y, .slice B nb cb]] W fun e w' => e = .returned (.bool true) ∧ Below W.heap.size W w')) :
    Calls Try.prog 19 #[.agg #[.bool x, .slice A na ca], .int .i64 e, .agg #[.bool y, .slice B nb cb], .int .i64 e] w fun e w' => e = .returned (.bool true) ∧ Below w.heap.size w w' := by
  have bw : Below w.heap.size w ((w.alloc (.cells #[.bool x, .slice A na ca] 26)).alloc (.cells #[.bool y, .slice B nb cb] 26)) := (by repeat (first | exact Below.refl _ _ | assumption | refine Below.alloc ?_ (by first | (simp; done) | (simp; omega) | omega) _ | refine Below.setCell ?_ (by first | (simp; done) | (simp; omega) | omega) _ | refine Below.drew ?_))
  go_enter Try.func19, Try.ntmps19
  go_wp2_with fail
  refine (H.out _ bw).mono ?_
  rintro e w1 ⟨rfl, hb1⟩
  go_wp2
  go_ret
  exact ⟨rfl, bw.trans (hb1.mono bw.size)⟩

theorem sameL {w : World} {va vb : Value} {z e : Int} (hA : WhZ w va z) (hB : WhZ w vb z) :
    Calls Try.prog 19 #[va, .int .i64 e, vb, .int .i64 e] w fun e w' => e = .returned (.bool true) ∧ Below w.heap.size w w' := by
  obtain ⟨A, ca, rfl, sa⟩ := hA
  obtain ⟨B, cb, rfl, sb⟩ := hB
  refine sameL_any _ _ A B _ _ ca cb e w (fun W hW => ?_)
  have := same_wh (wh_of_sl (x := decide (z < 0)) (sa.below hW) rfl) (wh_of_sl (x := decide (z < 0)) (sb.below hW) rfl)
  simpa using this
end Go.Proofs.Ytgnidjhfiagfnaa
