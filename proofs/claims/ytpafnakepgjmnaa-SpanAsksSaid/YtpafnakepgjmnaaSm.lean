/- pass; changes. -/
import Derived.Test.YtpafnakepgjmnaaSl
namespace Go.Proofs.Ytpafnakepgjmnaa
open Go.RowKit Go.Lib Go.Shelf

theorem only_of_below {a w : World} (h : Below a.heap.size a w) (row : Option Nat) : a.grownBy w row := ⟨h.os, h.tape, h.output, h.size, fun i hi _ => h.block i hi⟩
theorem only_setCell {a w : World} {g : Nat} (h : a.grownBy w (some g)) {p : Addr} (hp : p.block = g ∨ a.heap.size ≤ p.block) (u : Value) : a.grownBy (w.setCell p u) (some g) :=
  ⟨h.os, h.tape, h.output, by simpa [World.setCell] using h.size, fun i hi hne => (Below.heap_setCell w p u i (by
    rintro rfl
    rcases hp with hp | hp
    · exact hne (by rw [hp])
    · omega)).trans (h.block i hi hne)⟩

/-- What pass leaves: the border in block g stands at i, or at the next one if the day is d. -/
def Passed (w : World) (g : Nat) (A : Option Addr) (n c i' : Nat) (e : Ending) (w' : World) : Prop :=
  e = .returned (.tuple #[]) ∧ Blk w' g 74 #[.slice A n c, .int .i64 i'] ∧ w.grownBy w' (some g)

set_option maxRecDepth 100000 in
set_option maxHeartbeats 2000000 in
theorem pass_any (l : List Sp) (A : Option Addr) (n c i g : Nat) (d : Int) (w : World) (hn : Hid (l.length = n)) (hm : n ≤ 65536) (hi : i ≤ 2 * n) (hA : SpH w A l) (hb : Blk w g 74 #[.slice A n c, .int .i64 i]) :
    Calls Try.prog 62 #[.pointer (some ⟨g, 0, none⟩), .int .i64 d] w (Passed w g A n c (if dayV l i = d then i + 1 else i)) := by
  have c0 := (hb.cell 0).trans (b := some (Value.slice A n c)) rfl
  have c1 := (hb.cell 1).trans (b := some (Value.int .i64 i)) rfl
  have HD := hid (fun w (h : SpH w A l) => day_any l A n c i w hn hm hi h)
  obtain ⟨x, hx⟩ : ∃ x, dayV l i = x := ⟨_, rfl⟩
  rw [hx] at HD ⊢
  have HA := hid hA
  have HB := hid hb
  clear hA hb hx
  by_cases he : x = d
  · rw [if_pos he]
    have hed : (x == d) = true := by rw [beq_iff_eq]; exact he
    clear he
    go_enter Try.func62, Try.ntmps62
    go_wp2_with fail
    refine (HD.out _ HA.out).mono ?_
    rintro e w1 ⟨rfl, h1⟩
    have k1 := HB.out.below h1 HB.out.lt
    have q1 := (k1.cell 1).trans (b := some (Value.int .i64 i)) rfl
    have f1 := k1.frozen 1
    have HK := hid k1
    have HO := hid (only_setCell (only_of_below h1 (some g)) (p := ⟨g, 1, none⟩) (.inl rfl) (.int .i64 ((i + 1 : Nat) : Int)))
    clear h1 k1
    go_wp2
    go_end0
    exact ⟨rfl, HK.out.set_ 1 _, HO.out⟩
  · rw [if_neg he]
    have hed : (x == d) = false := by rw [beq_eq_false_iff_ne]; exact he
    clear he
    go_enter Try.func62, Try.ntmps62
    go_wp2_with fail
    refine (HD.out _ HA.out).mono ?_
    rintro e w1 ⟨rfl, h1⟩
    have HK := hid (HB.out.below h1 HB.out.lt)
    have HO := hid (only_of_below h1 (some g))
    clear h1
    go_wp2
    go_end0
    exact ⟨rfl, HK.out, HO.out⟩

set_option maxRecDepth 100000 in
set_option maxHeartbeats 400000 in
theorem changes_any (A B : Option Addr) (n m c d : Nat) (w : World) :
    Calls Try.prog 50 #[.slice A n c, .slice B m d] w fun e w' => e = .returned (.func (.func 60) #[] #[.pointer (some ⟨w.heap.size, 0, none⟩), .pointer (some ⟨w.heap.size + 1, 0, none⟩)]) ∧ w' = (w.alloc (.cells #[.slice A n c] 22)).alloc (.cells #[.slice B m d] 22) := by
  go_enter Try.func50, Try.ntmps50
  go_wp2
  go_ret
  exact ⟨rfl, rfl⟩
end Go.Proofs.Ytpafnakepgjmnaa
