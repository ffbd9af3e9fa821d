/- Helpers for the laws: usable arguments as whole numbers. Conditions: the numbers are in memory. -/
import Derived.Test.YtgnidjhfiagfnaaXl
namespace Go.Proofs.Ytgnidjhfiagfnaa
open Go.RowKit

/-- It is valid and has at most so many limbs. -/
def uB (most : Nat) (x : Bool) (l : List Nat) : Bool := decide (l.length ≤ most) && validB x l

theorem wh_whz {w : World} {v : Value} {x : Bool} {l : List Nat} (h : Wh w v x l) (hv : validB x l = true) : WhZ w v (zv x l) := by
  obtain ⟨A, c, rfl, hs⟩ := h
  have hn := valid_norm hs.1 hv
  have e1 : (zv x l).natAbs = val l := by unfold zv; cases x <;> simp
  have e2 : digs (zv x l).natAbs = l := by rw [e1, hn.1.2]
  have e3 : decide (zv x l < 0) = x := by
    unfold zv
    cases x
    · simp
    · have := hn.2.2 rfl
      simp; omega
  refine ⟨A, c, ?_, ?_⟩
  · rw [e2, e3]
  · rw [e2]; exact hs

theorem uB_lz {w : World} {v : Value} {most : Nat} {x : Bool} {l : List Nat} (h : Wh w v x l) (hu : uB most x l = true) : validB x l = true ∧ WhZ w v (zv x l) ∧ Lz most (zv x l) := by
  unfold uB at hu
  simp only [Bool.and_eq_true, decide_eq_true_eq] at hu
  refine ⟨hu.2, wh_whz h hu.2, ?_⟩
  obtain ⟨A, c, rfl, hs⟩ := h
  have hn := valid_norm hs.1 hu.2
  unfold Lz
  have e1 : (zv x l).natAbs = val l := by unfold zv; cases x <;> simp
  rw [e1, hn.1.2]
  exact hu.1

theorem whz_drew {w : World} {v : Value} {z : Int} (h : WhZ w v z) : WhZ w.drew v z := h

theorem usable1 {most : Nat} {w : World} {M n c : Nat} {A : Option Addr} {x : Bool} {l : List Nat} (hmost : most ≤ 1000) (hs : Sl w (.slice A n c) l) (hn : Hid (l.length = n)) (hb : Blk w M 26 #[.bool x, .slice A n c]) :
    Calls Try.prog 28 #[.int .i64 most, .slice (some ⟨M, 0, none⟩) 1 1] w fun e w' => e = .returned (.bool (uB most x l)) ∧ Below w.heap.size w w' := by
  have hn' := hn.out
  subst hn'
  refine (usable_any most 1 M (fun _ => x) (fun _ => l) w hmost (by omega) hb.lt ?_).mono ?_
  · intro j hj
    match j, hj with
    | 0, _ => exact ⟨A, c, hs, hb.cell 0, hb.cell 1⟩
  · rintro e w' ⟨rfl, hbel⟩
    refine ⟨ret_bool ?_, hbel⟩
    simp [useV, uB]

theorem usable2 {most : Nat} {w : World} {M n c m d : Nat} {A B : Option Addr} {x y : Bool} {l k : List Nat} (hmost : most ≤ 1000) (hs : Sl w (.slice A n c) l) (hn : Hid (l.length = n)) (ht : Sl w (.slice B m d) k) (hm : Hid (k.length = m)) (hb : Blk w M 26 #[.bool x, .slice A n c, .bool y, .slice B m d]) :
    Calls Try.prog 28 #[.int .i64 most, .slice (some ⟨M, 0, none⟩) 2 2] w fun e w' => e = .returned (.bool (uB most x l && uB most y k)) ∧ Below w.heap.size w w' := by
  have hn' := hn.out
  subst hn'
  have hm' := hm.out
  subst hm'
  refine (usable_any most 2 M (fun j => if j = 0 then x else y) (fun j => if j = 0 then l else k) w hmost (by omega) hb.lt ?_).mono ?_
  · intro j hj
    match j, hj with
    | 0, _ => exact ⟨A, c, hs, hb.cell 0, hb.cell 1⟩
    | 1, _ => exact ⟨B, d, ht, hb.cell 2, hb.cell 3⟩
  · rintro e w' ⟨rfl, hbel⟩
    refine ⟨ret_bool ?_, hbel⟩
    simp [useV, uB]

theorem usable3 {most : Nat} {w : World} {M n c m d m' d' : Nat} {A B C : Option Addr} {x y z : Bool} {l k t : List Nat} (hmost : most ≤ 1000) (hs : Sl w (.slice A n c) l) (hn : Hid (l.length = n)) (ht : Sl w (.slice B m d) k) (hm : Hid (k.length = m)) (hu : Sl w (.slice C m' d') t) (hm' : Hid (t.length = m')) (hb : Blk w M 26 #[.bool x, .slice A n c, .bool y, .slice B m d, .bool z, .slice C m' d']) :
    Calls Try.prog 28 #[.int .i64 most, .slice (some ⟨M, 0, none⟩) 3 3] w fun e w' => e = .returned (.bool (uB most x l && uB most y k && uB most z t)) ∧ Below w.heap.size w w' := by
  have e1 := hn.out
  subst e1
  have e2 := hm.out
  subst e2
  have e3 := hm'.out
  subst e3
  refine (usable_any most 3 M (fun j => if j = 0 then x else if j = 1 then y else z) (fun j => if j = 0 then l else if j = 1 then k else t) w hmost (by omega) hb.lt ?_).mono ?_
  · intro j hj
    match j, hj with
    | 0, _ => exact ⟨A, c, hs, hb.cell 0, hb.cell 1⟩
    | 1, _ => exact ⟨B, d, ht, hb.cell 2, hb.cell 3⟩
    | 2, _ => exact ⟨C, d', hu, hb.cell 4, hb.cell 5⟩
  · rintro e w' ⟨rfl, hbel⟩
    refine ⟨ret_bool ?_, hbel⟩
    simp [useV, uB]

theorem cmp_l {w : World} {va vb : Value} {y z o : Int} (hA : WhZ w va y) (hB : WhZ w vb z) (hy : Lz 1024 y) (hz : Lz 1024 z) (ho : cmpZ y z = o) :
    Calls Try.prog 33 #[va, vb] w fun e w' => e = .returned (.int .i64 o) ∧ Below w.heap.size w w' := by
  rw [← ho]
  exact cmp_z hA hB hy hz
theorem equal_l {w : World} {va vb : Value} {y z : Int} (hA : WhZ w va y) (hB : WhZ w vb z) (hy : Lz 1024 y) (hz : Lz 1024 z) (ho : y = z) :
    Calls Try.prog 30 #[va, vb] w fun e w' => e = .returned (.bool true) ∧ Below w.heap.size w w' := by
  have := equal_z hA hB hy hz
  rw [decide_eq_true ho] at this
  exact this
theorem same_l {w : World} {va vb : Value} {y z : Int} {o : Bool} (hA : WhZ w va y) (hB : WhZ w vb z) (ho : decide (y = z) = o) :
    Calls Try.prog 35 #[va, vb] w fun e w' => e = .returned (.bool o) ∧ Below w.heap.size w w' := by
  rw [← ho]
  exact sameP_z hA hB

theorem lz_one {z : Int} (h : z.natAbs < 65536) : Lz 1 z := lz_iff.2 (by omega)
theorem lz_four {z : Int} (h : z.natAbs < 18446744073709551616) : Lz 4 z := lz_iff.2 (by omega)

theorem cells6 {w : World} {N : Nat} {a b c d e f : Value} (h0 : Blk w N 26 #[a, b]) (h1 : Blk w (N + 1) 26 #[c, d]) (h2 : Blk w (N + 2) 26 #[e, f]) :
    w.cell? ⟨N, 0, none⟩ = some a ∧ w.cell? ⟨N, 1, none⟩ = some b ∧ w.cell? ⟨N + 1, 0, none⟩ = some c ∧ w.cell? ⟨N + 1, 1, none⟩ = some d ∧ w.cell? ⟨N + 2, 0, none⟩ = some e ∧ w.cell? ⟨N + 2, 1, none⟩ = some f :=
  ⟨h0.cell 0, h0.cell 1, h1.cell 0, h1.cell 1, h2.cell 0, h2.cell 1⟩
theorem cells4 {w : World} {N : Nat} {a b c d : Value} (h0 : Blk w N 26 #[a, b]) (h1 : Blk w (N + 1) 26 #[c, d]) :
    w.cell? ⟨N, 0, none⟩ = some a ∧ w.cell? ⟨N, 1, none⟩ = some b ∧ w.cell? ⟨N + 1, 0, none⟩ = some c ∧ w.cell? ⟨N + 1, 1, none⟩ = some d :=
  ⟨h0.cell 0, h0.cell 1, h1.cell 0, h1.cell 1⟩
theorem cells2 {w : World} {N : Nat} {a b : Value} (h0 : Blk w N 26 #[a, b]) : w.cell? ⟨N, 0, none⟩ = some a ∧ w.cell? ⟨N, 1, none⟩ = some b := ⟨h0.cell 0, h0.cell 1⟩
end Go.Proofs.Ytgnidjhfiagfnaa
