/- The reference: the set of the days that are marked. -/
import Derived.Test.YtpafnakepgjmnaaTa
namespace Go.Proofs.Ytpafnakepgjmnaa
open Go.RowKit Go.Lib Go.Shelf

theorem scan_no {p : Int → Bool} {d : Nat} (h : p d = false) : scan p (d + 1) = scan p d := by rw [scan, h]; rfl
theorem scan_new {p : Int → Bool} {d : Nat} (h : p d = true) (h2 : d = 0 ∨ p ((d : Int) - 1) = false) : scan p (d + 1) = scan p d ++ [((d : Int), (d : Int) + 1)] := by
  rw [scan, h, if_pos rfl]
  rcases h2 with rfl | h2
  · rfl
  · rw [h2, Bool.and_false]; rfl
theorem scan_more {p : Int → Bool} {d : Nat} (h : p d = true) (h0 : 0 < d) (h2 : p ((d : Int) - 1) = true) : scan p (d + 1) = ext (scan p d) ((d : Int) + 1) := by
  rw [scan, h, if_pos rfl, h2, decide_eq_true h0]; rfl
theorem scan_last {p : Int → Bool} {d : Nat} (hd : d ≤ 65536) (h0 : 0 < d) (h2 : p ((d : Int) - 1) = true) : ∃ q, (scan p d).length = q + 1 := by
  obtain ⟨S, f, e⟩ := (upto_scan p d hd).last (by omega) h2
  exact ⟨S.length, by rw [e]; simp⟩

set_option maxRecDepth 100000 in
set_option maxRecDepth 100000 in
set_option maxHeartbeats 2000000 in
theorem set_ref (p : Int → Bool) (g : Nat) (w : World) (hM : Mk w g p) :
    Calls Try.prog 56 #[.slice (some ⟨g, 0, none⟩) 65536 65536] w (RetSp w (norm p)) := by
  obtain ⟨i0, hi, hz0, hz1, hz2⟩ := info_parts info_sp
  have HI := hid hi
  have HZ := hid hz0
  have HZ1 := hid hz1
  have HZ2 := hid hz2
  have HM := hid hM
  clear hi hz0 hz1 hz2 hM
  go_enter Try.func56, Try.ntmps56
  go_wp2
  obtain ⟨N, hN⟩ : ∃ N : Nat, Hid (N = 65536) := ⟨_, rfl⟩
  go_loopw [3, 4] (fun v i wr => ∃ d : Nat, d ≤ 65536 ∧ i = .int .i64 d ∧ OwnSp wr w.heap.size v (scan p d) ∧ Below w.heap.size w wr) (fun _ i _ => N - (intOf i).toNat)
  case atStart => exact ⟨0, by omega, rfl, ownSp_nil _ _, Below.refl _ _⟩
  case round =>
    obtain ⟨d, hd, rfl, ho, hb⟩ := hrel
    have hU := upto_scan p d hd
    have hlen := hU.1.len_bd
    have HB := hid hb
    have m1 := HM.out.below hb HM.out.lt
    by_cases hlt : d < 65536
    · have c1 := m1.cell hlt
      have hlt' : (d : Int) < 65536 := by omega
      obtain ⟨x, hx⟩ : ∃ x, p d = x := ⟨_, rfl⟩
      rw [hx] at c1
      cases x
      · obtain ⟨A, c, rfl, _⟩ := ho.view
        have HO := hid ho
        have HS := hid (scan_no hx)
        clear ho hx hU m1 hb
        go_wp2
        go_roundw
        case rel => exact ⟨d + 1, by omega, by go_num, by rw [HS.out]; exact HO.out, HB.out⟩
        case measure => have := hN.out; simp [intOf]; omega
      · by_cases h0 : d = 0
        · obtain ⟨A, c, rfl, _⟩ := ho.view
          have HO := hid ho
          have HS := hid (scan_new hx (.inl h0))
          have hdec : decide (0 < (d : Int)) = false := by rw [h0]; rfl
          have hdn : decide (0 < d) = false := by rw [h0]; rfl
          clear h0 ho hx hU m1 hb
          go_wp2_with (at_builtin; refine wpList_append_own _ rfl _ _ 22 rfl w.heap.size 34 i0 (.agg #[.int .i64 0, .int .i64 0]) 2 16 Try.underlying22 HI.out HZ.out HZ1.out HZ2.out rfl (by decide) _ _ _ rfl (HO.out.alloc _) ⟨wr.heap.size, 0, none⟩ 1 1 [.int .i64 d, .int .i64 ((d : Int) + 1)] rfl rfl (cell_two_new rfl _ _ _) (by simp [Value.oneCell']) (by unfold maxLen; omega) (by omega) (by have := HB.out.size; simp; omega) ?_; intro v' w1 hown1 hgrow1 _)
          have HO2 : Hid (OwnSp w1 w.heap.size v' (scan p (d + 1))) := by
            rw [HS.out]
            show w1.ownsRow _ _ _ _ _ _
            rw [cells_append, List.length_append]
            exact hown1
          have HB1 := HB.out.alloc HB.out.size (.cells #[.int .i64 d, .int .i64 ((d : Int) + 1)] 34)
          have HB2 : Hid (Below w.heap.size w w1) := HB1.grown hgrow1 HB1.size (fun k e => (World.ownsRow.lt HO.out k e).1)
          clear hown1 hgrow1 HB1
          go_wp2
          go_roundw
          case rel => exact ⟨d + 1, by omega, by go_num, HO2.out, HB2.out⟩
          case measure => have := hN.out; simp [intOf]; omega
        · obtain ⟨m, hdm⟩ : ∃ m, d = m + 1 := ⟨d - 1, by omega⟩
          have em : (d : Int) - 1 = m := by omega
          have h0d : 0 < d := by omega
          have c2 := m1.cell (d := m) (by omega)
          have hdec : decide (0 < (d : Int)) = true := decide_eq_true (by omega)
          have hdn : decide (0 < d) = true := decide_eq_true h0d
          obtain ⟨y, hy⟩ : ∃ y, p m = y := ⟨_, rfl⟩
          rw [hy] at c2
          cases y
          · obtain ⟨A, c, rfl, _⟩ := ho.view
            have HO := hid ho
            have HS := hid (scan_new hx (.inr (by rw [em]; exact hy)))
            clear h0 ho hx hy hU m1 hb hdm h0d
            go_wp2_with (at_builtin; refine wpList_append_own _ rfl _ _ 22 rfl w.heap.size 34 i0 (.agg #[.int .i64 0, .int .i64 0]) 2 16 Try.underlying22 HI.out HZ.out HZ1.out HZ2.out rfl (by decide) _ _ _ rfl (HO.out.alloc _) ⟨wr.heap.size, 0, none⟩ 1 1 [.int .i64 d, .int .i64 ((d : Int) + 1)] rfl rfl (cell_two_new rfl _ _ _) (by simp [Value.oneCell']) (by unfold maxLen; omega) (by omega) (by have := HB.out.size; simp; omega) ?_; intro v' w1 hown1 hgrow1 _)
            have HO2 : Hid (OwnSp w1 w.heap.size v' (scan p (d + 1))) := by
              rw [HS.out]
              show w1.ownsRow _ _ _ _ _ _
              rw [cells_append, List.length_append]
              exact hown1
            have HB1 := HB.out.alloc HB.out.size (.cells #[.int .i64 d, .int .i64 ((d : Int) + 1)] 34)
            have HB2 : Hid (Below w.heap.size w w1) := HB1.grown hgrow1 HB1.size (fun k e => (World.ownsRow.lt HO.out k e).1)
            clear hown1 hgrow1 HB1
            go_wp2
            go_roundw
            case rel => exact ⟨d + 1, by omega, by go_num, HO2.out, HB2.out⟩
            case measure => have := hN.out; simp [intOf]; omega
          · obtain ⟨q, hq⟩ := scan_last (p := p) hd h0d (by rw [em]; exact hy)
            obtain ⟨g', c, rfl, hg1, hg2, hcq, hfq⟩ := ho.head hq
            have HO := hid ho
            have HQ := hid hq
            have HS := hid (scan_more hx h0d (by rw [em]; exact hy))
            have hq6 : q ≤ 65535 := by omega
            have eq1 : ((q + 1 : Nat) : Int) - 1 = q := by omega
            have eq2 : (q : Int) + 1 - 1 = q := by omega
            clear h0 ho hx hy hU m1 hq hb hdm h0d
            go_wp2
            go_roundw
            case rel => exact ⟨d + 1, by omega, by go_num, by rw [HS.out]; exact HO.out.ext_ HQ.out _, HB.out.setCell (p := ⟨g', q * 2 + 1, none⟩) hg1 _⟩
            case measure => have := hN.out; simp [intOf]; omega
    · obtain rfl : d = 65536 := by omega
      obtain ⟨A, c, rfl, _⟩ := ho.view
      have HO := hid ho
      have hlt' : ¬ ((65536 : Nat) : Int) < 65536 := by omega
      clear ho hU m1 hb
      go_wp2
      go_ret
      exact ⟨_, rfl, HO.out, HB.out⟩
end Go.Proofs.Ytpafnakepgjmnaa
