/- The reference: Bridge. -/
import Derived.Test.YtpafnakepgjmnaaTl
namespace Go.Proofs.Ytpafnakepgjmnaa
open Go.RowKit Go.Lib Go.Shelf

theorem gaps_take1 (z : Int) (l : List Sp) : gapsL z (l.take 1) = [] := by
  cases l with
  | nil => rfl
  | cons s l => rfl
theorem gaps_next {z : Int} {l : List Sp} {m : Nat} (h : m + 1 < l.length) : gapsL z (l.take (m + 1 + 1)) = gapsL z (l.take (m + 1)) ++ (if fr l (m + 1) - tt l m ≤ z then [(tt l m, fr l (m + 1))] else []) := by
  rw [take_succ_sp (by omega), take_succ_sp (l := l) (k := m) (by omega), gapsL_snoc]
theorem or_grow (q : Bool) (f d x : Nat) : (if (x : Int) = (d : Int) then true else (q || (decide ((f : Int) ≤ (x : Int)) && decide ((x : Int) < (d : Int))))) = (q || (decide ((f : Int) ≤ (x : Int)) && decide ((x : Int) < ((d + 1 : Nat) : Int)))) ∨ d < f := by
  by_cases hf : d < f
  · exact .inr hf
  · left
    by_cases g : x = d
    · subst g
      rw [if_pos rfl, decide_eq_true (show (f : Int) ≤ (x : Int) by omega), decide_eq_true (show (x : Int) < ((x + 1 : Nat) : Int) by omega)]
      simp
    · rw [if_neg (by omega)]
      have e : decide ((x : Int) < (d : Int)) = decide ((x : Int) < ((d + 1 : Nat) : Int)) := by
        by_cases g2 : x < d
        · rw [decide_eq_true (by omega), decide_eq_true (by omega)]
        · rw [decide_eq_false (by omega), decide_eq_false (by omega)]
      rw [e]

set_option maxRecDepth 100000 in
set_option maxRecDepth 100000 in
set_option maxHeartbeats 2000000 in
theorem bridge_ref_yes (l : List Sp) (A : Option Addr) (n c : Nat) (z : Int) (w : World) (hn : Hid (l.length = n)) (hA : SpH w A l) (hs : IsSet l) (hz : 0 ≤ z) :
    Calls Try.prog 39 #[.slice A n c, .int .i64 z] w (RetSpE w (mergeL z l) 0) := by
  have SA := hid hA
  have HV := hid (validB_true.2 hs)
  have HS := hid hs
  have hm : n ≤ 65536 := by have := hs.len_bd; have := hn.out; omega
  have hzd : decide (z < 0) = false := decide_eq_false (by omega)
  clear hA hs
  go_enter Try.func39, Try.ntmps39
  go_wp2_with fail
  refine (valid_ref_eq (l := l) (r := true) HV.out hn (by omega) SA.out).mono ?_
  rintro e w1 ⟨rfl, h⟩
  have HB := hid h
  clear h
  go_wp2_with fail
  refine (marks_eq (l := l) hn (by omega) HS.out.vd (SA.out.below HB.out)).mono ?_
  rintro e w2 ⟨g, rfl, hg, hM, h⟩
  have HB2 := hid (HB.out.trans (h.mono HB.out.size))
  have hgw : w.heap.size ≤ g := Nat.le_trans HB.out.size hg
  have HM := hid hM
  clear h HB hg hM
  go_wp2
  go_loopw [7, 8] (fun i v wr => ∃ k : Nat, 1 ≤ k ∧ (k ≤ n ∨ k = 1) ∧ i = .int .i64 k ∧ Mk wr g (fun x => memB l x || memB (gapsL z (l.take k)) x) ∧ Below w.heap.size w wr) (fun i _ _ => n + 1 - (intOf i).toNat)
  case atStart => exact ⟨1, by omega, .inr rfl, rfl, HM.out.congr fun d _ => by rw [gaps_take1]; simp [memB_nil], HB2.out⟩
  case round =>
    clear HM HB2
    obtain ⟨k, hk1, hkn, rfl, hM, hb⟩ := hrel
    have HB := hid hb
    have HM := hid hM
    clear hM
    by_cases hlt : k < n
    · obtain ⟨m, hkm⟩ : ∃ m, k = m + 1 := ⟨k - 1, by omega⟩
      subst hkm
      obtain ⟨b, off, rfl, hbl, hc⟩ := SA.out.at_ hn.out (by omega)
      have a1 := HS.out.at_ (i := m + 1) (by rw [hn.out]; exact hlt)
      have a0 := HS.out.at_ (i := m) (by rw [hn.out]; omega)
      have a2 := a1.2.2.2 (by omega)
      rw [Nat.add_sub_cancel] at a2
      obtain ⟨t, ht⟩ := Int.eq_ofNat_of_zero_le a1.1
      obtain ⟨f, hf⟩ := Int.eq_ofNat_of_zero_le (show 0 ≤ tt l m by omega)
      have HGN := hid (gaps_next (z := z) (l := l) (m := m) (by rw [hn.out]; exact hlt))
      have hc1 := (hc (m + 1) hlt).1
      have hc0 := (hc m (by omega)).2
      rw [ht] at a1 a2 hc1
      rw [hf] at a0 a2 hc0
      rw [ht, hf] at HGN
      have hft : f < t := by omega
      have ht6 : t < 65536 := by have := a1.2.1; have := a1.2.2.1; omega
      have HC1 := hid hc1
      have HC0 := hid hc0
      have c0 := (hb.cell (p := ⟨b, off + (m + 1) * 2, none⟩) hbl).trans hc1
      have c1 := (hb.cell (p := ⟨b, off + m * 2 + 1, none⟩) hbl).trans hc0
      have HFT := hid ht
      clear a1 a0 a2 hc hc1 hc0 ht hf hb
      by_cases hgap : (t : Int) - (f : Int) ≤ z
      · have hdec : decide ((t : Int) - (f : Int) ≤ z) = true := decide_eq_true hgap
        rw [if_pos hgap] at HGN
        go_wp2
        go_quiet (fail)
        go_wp2
        have HMq : Hid (Mk (wr.drewN nq) g (fun x => memB l x || memB (gapsL z (l.take (m + 1))) x)) := HM.out
        have HBq := hid (below_drewN HB.out nq)
        clear HM HB c0 c1
        generalize wr.drewN nq = W1 at *
        go_loopw [8] (fun v ws => ∃ d : Nat, f ≤ d ∧ d ≤ t ∧ v = .int .i64 d ∧ Mk ws g (fun x => (memB l x || memB (gapsL z (l.take (m + 1))) x) || (decide ((f : Int) ≤ x) && decide (x < (d : Int)))) ∧ Below w.heap.size w ws) (fun v _ => t - (intOf v).toNat)
        case atStart => exact ⟨f, by omega, by omega, rfl, HMq.out.congr fun d _ => by by_cases q : (f : Int) ≤ (d : Int) <;> simp <;> omega, HBq.out⟩
        case round =>
          clear HMq HBq
          obtain ⟨d, hd1, hd2, rfl, hM, hb⟩ := hrel
          have HM := hid hM
          have HB := hid hb
          have c0 := (hb.cell (p := ⟨b, off + (m + 1) * 2, none⟩) hbl).trans HC1.out
          by_cases hdt : d < t
          · have hd6 : d < 65536 := by omega
            have hdt' : (d : Int) < (t : Int) := by omega
            have m1 := hM.cell hd6
            have m2 := World.rowIs.frozen hM d
            clear hM hb
            go_wp2
            go_roundw
            case rel => exact ⟨d + 1, by omega, by omega, by go_num, (HM.out.set d true).congr fun x _ => by
              rcases or_grow (memB l x || memB (gapsL z (l.take (m + 1))) x) f d x with h | h
              · exact h
              · omega, HB.out.setCell (p := ⟨g, d, none⟩) hgw _⟩
            case measure => simp [intOf]; omega
          · obtain rfl : d = t := by omega
            have hdt' : ¬ (d : Int) < (d : Int) := by omega
            have HM2 : Hid (Mk wr g (fun x => memB l x || memB (gapsL z (l.take (m + 1 + 1))) x)) := HM.out.congr fun x _ => by
              rw [HGN.out, memB_append, memB_cons, memB_nil, Bool.or_false, Bool.or_assoc]
            clear hM hb
            go_wp2
            go_roundw
            case rel => exact ⟨m + 1 + 1, by omega, .inl (by omega), by go_num, HM2.out, HB.out⟩
            case measure => simp [intOf]; omega
      · have hdec : decide ((t : Int) - (f : Int) ≤ z) = false := decide_eq_false hgap
        rw [if_neg hgap, List.append_nil] at HGN
        go_wp2
        go_quiet (fail)
        go_wp2
        go_roundw
        case rel => exact ⟨m + 1 + 1, by omega, .inl (by omega), by go_num, by rw [HGN.out]; exact HM.out, below_drewN HB.out _⟩
        case measure => simp [intOf]; omega
    · have hlt' : ¬ (k : Int) < (n : Int) := by omega
      have HM2 : Hid (Mk wr g (fun x => memB l x || memB (gapsL z l) x)) := by
        have := HM.out
        rw [List.take_of_length_le (by rw [hn.out]; omega)] at this
        exact this
      have HR : Hid (norm (fun x => memB l x || memB (gapsL z l) x) = mergeL z l) := by
        obtain ⟨m1, m2, _, _⟩ := merge_set HS.out hz
        exact (norm_eq m1 (fun x _ _ => m2 x)).symm
      clear hb
      go_wp2_with fail
      refine (set_ref _ g _ HM2.out).mono ?_
      rintro e w5 ⟨v, rfl, ho, h⟩
      have HB5 := hid (HB.out.trans (h.mono HB.out.size))
      have HO := hid (ho.mono HB.out.size)
      rw [HR.out] at HO
      clear ho h
      go_wp2
      go_ret2
      exact ⟨_, rfl, HO.out, HB5.out⟩
end Go.Proofs.Ytpafnakepgjmnaa
