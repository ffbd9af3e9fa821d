/- The reference: the days that are marked. -/
import Derived.Test.YtpafnakepgjmnaaSp8
import Derived.Deep.OwnRows
namespace Go.Proofs.Ytpafnakepgjmnaa
open Go.RowKit Go.Lib Go.Shelf

theorem info_bool : (Try.prog.info? 4).map (fun i => (i.zero, i.size, i.bytes)) = some (some (.bool false), 1, 1) := by kernel_rfl

/-- Block g marks the days of p. -/
def Mk (w : World) (g : Nat) (p : Int → Bool) : Prop := w.rowIs g 4 65536 fun d => .bool (p d)
section
variable {w w' : World} {g : Nat} {p q : Int → Bool}
theorem Mk.congr (h : Mk w g p) (e : ∀ d : Nat, d < 65536 → p d = q d) : Mk w g q := World.rowIs.congr h fun i hi => by rw [e i hi]
theorem Mk.cell (h : Mk w g p) {d : Nat} (hd : d < 65536) : w.cell? ⟨g, d, none⟩ = some (.bool (p d)) := World.rowIs.cell h hd
theorem Mk.lt (h : Mk w g p) : g < w.heap.size := World.rowIs.lt h
theorem Mk.below {B : Nat} (h : Mk w g p) (hb : Below B w w') (hg : g < B) : Mk w' g p := World.rowIs.of_block h (hb.block g hg)
theorem Mk.set (h : Mk w g p) (d : Nat) (b : Bool) : Mk (w.setCell ⟨g, d, none⟩ (.bool b)) g fun x => if x = (d : Int) then b else p x :=
  World.rowIs.congr (World.rowIs.set h d (.bool b)) fun i _ => by
    by_cases e : i = d
    · subst e; simp
    · show (if i = d then Value.bool b else Value.bool (p i)) = Value.bool (if (i : Int) = (d : Int) then b else p i)
      rw [if_neg e, if_neg (by omega)]
end

set_option maxRecDepth 100000 in
set_option maxHeartbeats 2000000 in
theorem marks_any (l : List Sp) (A : Option Addr) (n c : Nat) (w : World) (hn : Hid (l.length = n)) (hm : n ≤ 4611686018427387904) (hv : Hid (Vd l)) (hA : SpH w A l) :
    Calls Try.prog 57 #[.slice A n c] w fun e w' => ∃ g, e = .returned (.slice (some ⟨g, 0, none⟩) 65536 65536) ∧ w.heap.size ≤ g ∧ Mk w' g (memB l) ∧ Below w.heap.size w w' := by
  obtain ⟨i0, hi, hz0, hz1, hz2⟩ := info_parts info_bool
  have HI := hid hi
  have HZ := hid hz0
  have HZ1 := hid hz1
  have HZ2 : Hid (i0.bytes * 65536 ≤ 281474976710656) := by show _ ≤ _; rw [hz2]; omega
  have SA := hid hA
  clear hi hz0 hz1 hz2 hA
  go_enter Try.func57, Try.ntmps57
  go_wp2_with (refine wpList_make_row _ rfl _ _ 68 rfl 4 i0 (.bool false) Try.underlying68 HI.out HZ.out HZ1.out rfl .i64 .i64 65536 rfl rfl HZ2.out (by omega) ?_)
  have HM : Hid (Mk (w.alloc (.cells (madeCells #[.bool false] 65536) 4)) w.heap.size fun _ => false) := World.rowIs_made w (.bool false) 65536 4
  have HB : Hid (Below w.heap.size w (w.alloc (.cells (madeCells #[.bool false] 65536) 4))) := (Below.refl _ _).alloc (Nat.le_refl _) _
  generalize w.alloc (.cells (madeCells #[.bool false] 65536) 4) = W0 at *
  go_loopw [4, 5] (fun i d wr => ∃ k : Nat, k ≤ n ∧ i = .int .i64 k ∧ Mk wr w.heap.size (memB (l.take k)) ∧ Below w.heap.size w wr) (fun i _ _ => n - (intOf i).toNat)
  case atStart => exact ⟨0, by omega, rfl, HM.out, HB.out⟩
  case round =>
    clear HM HB
    obtain ⟨k, hk, rfl, hM, hb⟩ := hrel
    by_cases hlt : k < n
    · obtain ⟨b, off, rfl, hbl, hc⟩ := SA.out.at_ hn.out (by omega)
      have hvk := hv.out.at_ (i := k) (by rw [hn.out]; exact hlt)
      obtain ⟨f, hf⟩ := Int.eq_ofNat_of_zero_le hvk.1
      obtain ⟨t, ht⟩ := Int.eq_ofNat_of_zero_le (show 0 ≤ tt l k by omega)
      have c0 := (hb.cell (p := ⟨b, off + k * 2, none⟩) hbl).trans (hc k hlt).1
      have hc1 := (hc k hlt).2
      rw [hf] at c0 hvk
      rw [ht] at hvk hc1
      obtain ⟨_, hft, ht6⟩ := hvk
      have hstep : Hid (∀ x, memB (l.take (k + 1)) x = (memB (l.take k) x || (decide ((f : Int) ≤ x) && decide (x < (t : Int))))) := fun x => by
        rw [take_succ_sp (by rw [hn.out]; exact hlt), memB_append, memB_cons, memB_nil, Bool.or_false, hf, ht]
      have HM := hid hM
      have HB := hid hb
      have HC1 := hid hc1
      clear hf ht hc hc1 hM hb
      go_wp2
      go_loopw [5] (fun v ws => ∃ d : Nat, f ≤ d ∧ d ≤ t ∧ v = .int .i64 d ∧ Mk ws w.heap.size (fun x => memB (l.take k) x || (decide ((f : Int) ≤ x) && decide (x < (d : Int)))) ∧ Below w.heap.size w ws) (fun v _ => t - (intOf v).toNat)
      case atStart => exact ⟨f, by omega, by omega, rfl, HM.out.congr fun d _ => by by_cases g : (f : Int) ≤ (d : Int) <;> simp <;> omega, HB.out⟩
      case round =>
        clear HM HB c0
        obtain ⟨d, hd1, hd2, rfl, hM, hb⟩ := hrel
        have c1 := (hb.cell (p := ⟨b, off + k * 2 + 1, none⟩) hbl).trans HC1.out
        have HM := hid hM
        have HB := hid hb
        by_cases hdt : d < t
        · have hd6 : d < 65536 := by omega
          have m1 := hM.cell hd6
          have m2 := World.rowIs.frozen hM d
          clear hM hb
          go_wp2
          go_roundw
          case rel => exact ⟨d + 1, by omega, by omega, by go_num, (HM.out.set d true).congr fun x _ => by
            by_cases g : x = d
            · subst g; simp; omega
            · have g' : ¬ ((x : Int) = (d : Int)) := by omega
              rw [if_neg g']
              have e : decide ((x : Int) < (d : Int)) = decide ((x : Int) < ((d + 1 : Nat) : Int)) := by
                by_cases g2 : x < d
                · rw [decide_eq_true (by omega), decide_eq_true (by omega)]
                · rw [decide_eq_false (by omega), decide_eq_false (by omega)]
              rw [e], HB.out.setCell (p := ⟨w.heap.size, d, none⟩) (Nat.le_refl _) _⟩
          case measure => simp [intOf]; omega
        · obtain rfl : d = t := by omega
          have hdt' : ¬ (d : Int) < (d : Int) := by omega
          have HM2 : Hid (Mk wr w.heap.size (memB (l.take (k + 1)))) := HM.out.congr fun x _ => (hstep.out x).symm
          clear hM hb
          go_wp2
          go_roundw
          case rel => exact ⟨k + 1, by omega, by go_num, HM2.out, HB.out⟩
          case measure => simp [intOf]; omega
    · obtain rfl : k = n := by omega
      have hlt' : ¬ (k : Int) < (k : Int) := by omega
      have HM : Hid (Mk wr w.heap.size (memB l)) := by
        have := hM
        rw [List.take_of_length_le (by rw [hn.out]; omega)] at this
        exact this
      have HB := hid hb
      clear hM hb
      go_wp2
      go_ret
      exact ⟨w.heap.size, rfl, Nat.le_refl _, HM.out, HB.out⟩
end Go.Proofs.Ytpafnakepgjmnaa
