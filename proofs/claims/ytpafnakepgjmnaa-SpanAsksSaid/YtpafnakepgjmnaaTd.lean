/- The lender's functions. -/
import Derived.Test.YtpafnakepgjmnaaVe0
import Derived.OwnWalk
namespace Go.Proofs.Ytpafnakepgjmnaa
open Go.RowKit Go.Lib Go.Shelf

set_option maxRecDepth 100000 in
set_option maxHeartbeats 400000 in
theorem mark_any (k i : Int) (w : World) (h1 : 0 ≤ k) (h2 : k ≤ 9) (h3 : 0 ≤ i) (h4 : i ≤ 1000000) : Calls Try.prog 68 #[.int .i64 k, .int .i64 i] w fun e w' => e = .returned (.int .i64 (1000003 * (k + 7) + i)) ∧ w' = w := by
  go_enter Try.func68, Try.ntmps68
  go_wp2
  go_ret
  exact ⟨rfl, rfl⟩
set_option maxRecDepth 100000 in
set_option maxHeartbeats 400000 in
theorem markSpan_any (k i : Int) (w : World) (h1 : 0 ≤ k) (h2 : k ≤ 9) (h3 : 0 ≤ i) (h4 : i ≤ 1000000) : Calls Try.prog 54 #[.int .i64 k, .int .i64 i] w fun e w' => e = .returned (.agg #[.int .i64 (1000003 * (k + 7) + i), .int .i64 0]) ∧ Below w.heap.size w w' := by
  go_enter Try.func54, Try.ntmps54
  go_wp2_with fail
  refine (mark_any k i _ h1 h2 h3 h4).mono ?_
  rintro e _ ⟨rfl, rfl⟩
  go_wp2
  exact bodyPost_ret (v := .agg #[.int .i64 (1000003 * (k + 7) + i), .int .i64 0]) (by simp [results, Try.results54, go_sem]) rfl ⟨rfl, (by repeat (first | exact Below.refl _ _ | assumption | refine Below.alloc ?_ (by first | (simp; done) | (simp; omega) | omega) _ | refine Below.setCell ?_ (by first | (simp; done) | (simp; omega) | omega) _ | refine Below.drew ?_))⟩

/-- The marks behind a slice that is lent. -/
def mks : Nat → List Sp
  | 0 => []
  | k + 1 => mks k ++ [(1000003 * 8 + (k : Int), 0)]
theorem mks_len (k : Nat) : (mks k).length = k := by
  induction k with
  | zero => rfl
  | succ k ih => rw [mks, List.length_append, ih]; rfl
theorem mks_at {k i : Nat} (h : i < k) : fr (mks k) i = 1000003 * 8 + (i : Int) ∧ tt (mks k) i = 0 := by
  induction k with
  | zero => omega
  | succ k ih =>
    rw [mks]
    by_cases g : i < k
    · rw [fr_left (by rw [mks_len]; exact g), tt_left (by rw [mks_len]; exact g)]; exact ih g
    · obtain rfl : i = k := by omega
      exact ⟨fr_last (mks_len i), tt_last (mks_len i)⟩

/-- Block g is a slice that was lent: some spans, and the marks behind them. -/
def LentAt (w : World) (base g : Nat) (l : List Sp) : Prop := base ≤ g ∧ OwnSp w base (.slice (some ⟨g, 0, none⟩) (l.length + 12) (l.length + 12)) (l ++ mks 12)

set_option maxRecDepth 100000 in
set_option maxHeartbeats 2000000 in
theorem lent_any (l : List Sp) (A : Option Addr) (n c : Nat) (w : World) (hn : Hid (l.length = n)) (hm : n ≤ 1000) (hA : SpH w A l) (hN : A = none → n = 0 ∧ c = 0) :
    Calls Try.prog 32 #[.slice A n c] w fun e w' => ∃ g, e = .returned (.slice (some ⟨g, 0, none⟩) n (n + 12)) ∧ LentAt w' w.heap.size g l ∧ Below w.heap.size w w' := by
  obtain ⟨i0, hi, hz0, hz1, hz2⟩ := info_parts info_sp
  have HI := hid hi
  have HZ := hid hz0
  have HZ1 := hid hz1
  have HZ2 : Hid (i0.bytes * (n + 12) ≤ 281474976710656) := by show _ ≤ _; rw [hz2]; omega
  have HN := hid hN
  have hcl : (cellsOf l).length = n * 2 := by rw [cells_len, hn.out]
  have hcells : ∀ w', Below w.heap.size w w' → ∀ ad, A = some ad → ∀ j u, (cellsOf l)[j]? = some u → w'.cell? (ad.add j) = some u := fun w' hw ad e j u hu => by
    subst e
    have hne : l ≠ [] := by intro h; subst h; simp [cellsOf] at hu
    obtain ⟨b, off, e2, hb, _⟩ := hA hne
    cases e2
    have e : (⟨b, off, none⟩ : Addr).add j = ⟨b, off + j, none⟩ := by
      unfold Addr.add
      split
      · rename_i h; subst h; rfl
      · rfl
    rw [e, hw.cell (p := ⟨b, off + j, none⟩) hb]
    exact hA.cellsAt j u hu
  have HC := hid hcells
  clear hi hz0 hz1 hz2 hN hcells
  go_enter Try.func32, Try.ntmps32
  go_upto_region 2 with (refine wpList_make_own _ rfl _ _ 22 rfl w.heap.size 34 i0 (.agg #[.int .i64 0, .int .i64 0]) 2 Try.underlying22 HI.out HZ.out HZ1.out .i64 .i64 _ (n + 12) rfl rfl (by omega) HZ2.out (by unfold maxLen; omega) (Nat.le_refl _) ?_; intro w1 hown1 hgrow1)
  have hb1 : Below w.heap.size w w1 := (Below.refl w.heap.size w).grown hgrow1 (Nat.le_refl _) (fun k e => by cases e)
  have HB1 := hid hb1
  have HO1 := hid hown1
  have HC1 := hid (HC.out w1 hb1)
  clear hown1 hgrow1 hb1
  go_upto_region 3 with (at_builtin; refine wpList_append_fits_any _ rfl _ _ 22 rfl w.heap.size 34 i0 2 Try.underlying22 HI.out HZ1.out w.heap.size 0 (n + 12) [] rfl HO1.out A n c (cellsOf l) rfl hcl HN.out HC1.out cells_one (by omega) ?_; intro w2 hown2 hgrow2)
  have HB2 : Hid (Below w.heap.size w w2) := HB1.out.grown hgrow2 HB1.out.size (fun k e => Nat.le_of_eq (Option.some.inj e))
  have HO2 : Hid (OwnSp w2 w.heap.size (.slice (some ⟨w.heap.size, 0, none⟩) n (n + 12)) l) := by
    show w2.ownsRow _ _ _ _ _ _
    rw [hn.out]
    simpa using hown2
  clear hown2 hgrow2 HO1 HB1 HC1
  obtain ⟨B, hB⟩ : ∃ B, w.heap.size = B := ⟨_, rfl⟩
  rw [hB] at HO2 HB2 ⊢
  have HBB := hid hB
  clear hB
  go_wp2
  go_loopw [3, 4] (fun v i wr => ∃ k : Nat, k ≤ 12 ∧ i = .int .i64 k ∧ v = .slice (some ⟨B, 0, none⟩) (n + k) (n + 12) ∧ OwnSp wr B v (l ++ mks k) ∧ Below B w wr) (fun _ i _ => 12 - (intOf i).toNat)
  case atStart => exact ⟨0, by omega, rfl, rfl, by rw [mks, List.append_nil]; exact HO2.out, HB2.out⟩
  case round =>
    clear HO2 HB2
    obtain ⟨k, hk, rfl, rfl, ho, hb⟩ := hrel
    have HO := hid ho
    have HB := hid hb
    have HLen : Hid ((l ++ mks k).length = n + k) := by show _ = _; rw [List.length_append, mks_len, hn.out]
    clear ho hb
    by_cases hk12 : k < 12
    · have hk' : (k : Int) < 12 := by omega
      go_wp2_with fail
      refine (markSpan_any 1 k _ (by omega) (by omega) (by omega) (by omega)).mono ?_
      rintro e w3 ⟨rfl, h⟩
      have HO3 : Hid (w3.ownsRow B 34 2 (.slice (some ⟨B, 0, none⟩) (n + k) (n + 12)) (n + k) (cellsOf (l ++ mks k))) := by
        have := HO.out.below h
        unfold OwnSp at this
        rw [HLen.out] at this
        exact this
      have HB3 := hid (HB.out.trans (h.mono (by have := HB.out.size; have := HBB.out; omega)))
      clear h HO
      go_wp2_with (at_builtin; refine wpList_append_fits _ rfl _ _ 22 rfl B 34 i0 2 Try.underlying22 HI.out HZ1.out B (n + k) (n + 12) (cellsOf (l ++ mks k)) rfl (HO3.out.alloc _) ⟨w3.heap.size, 0, none⟩ 1 1 [.int .i64 (1000003 * (1 + 7) + (k : Int)), .int .i64 0] rfl rfl (cell_two_new rfl _ _ _) (by simp [Value.oneCell']) (by omega) ?_; intro w4 hown4 hgrow4)
      have HB4 := HB3.out.alloc (by have := HB3.out.size; have := HBB.out; omega) (.cells #[.int .i64 (1000003 * (1 + 7) + (k : Int)), .int .i64 0] 34)
      have HB5 : Hid (Below B w w4) := HB4.grown hgrow4 (by have := HB3.out.size; have := HBB.out; simp; omega) (fun r e => Nat.le_of_eq (Option.some.inj e))
      have HO5 : Hid (OwnSp w4 B (.slice (some ⟨B, 0, none⟩) (n + (k + 1)) (n + 12)) (l ++ mks (k + 1))) := by
        show w4.ownsRow _ _ _ _ _ _
        rw [mks, ← List.append_assoc, cells_append, List.length_append, HLen.out]
        exact hown4
      clear hown4 hgrow4 HB4 HO3
      go_wp2
      go_roundw
      case rel => exact ⟨k + 1, by omega, by go_num, rfl, HO5.out, HB5.out⟩
      case measure => simp [intOf]; omega
    · obtain rfl : k = 12 := by omega
      have hn12 : n ≤ n + 12 := by omega
      go_wp2
      go_ret
      refine ⟨B, rfl, ⟨Nat.le_of_eq HBB.out, ?_⟩, ?_⟩
      · rw [hn.out, HBB.out]; exact HO.out
      · rw [HBB.out]; exact HB.out
end Go.Proofs.Ytpafnakepgjmnaa
