/- Contracts of the small functions. -/
import Derived.Test.YtgnidjhfiagfnaaProg
import Derived.WalkKit
import Derived.WalkSpells
import Derived.WalkLawsBesides
import Derived.Test.YtgnidjhfiagfnaaNums
namespace Go.Proofs.Ytgnidjhfiagfnaa
open Go.RowKit

/-- In world w the cells from b, off on hold the limbs l. -/
def At (w : World) (A : Option Addr) (l : List Nat) : Prop :=
  l ≠ [] → ∃ b off, A = some ⟨b, off, none⟩ ∧ b < w.heap.size ∧ ∀ j, j < l.length → w.cell? ⟨b, off + j, none⟩ = some (.int .u16 (nth l j))

theorem ret_int {k : IntKind} {a b : Int} (h : a = b) : Ending.returned (.int k a) = .returned (.int k b) := by rw [h]
theorem ret_bool {a b : Bool} (h : a = b) : Ending.returned (.bool a) = .returned (.bool b) := by rw [h]

theorem cutLen_zero {l : List Nat} {m : Nat} (h : nth l m = 0) : cutLen l (m + 1) = cutLen l m := by
  conv => lhs; unfold cutLen
  rw [if_pos h]
theorem cutLen_pos {l : List Nat} {m : Nat} (h : nth l m ≠ 0) : cutLen l (m + 1) = m + 1 := by
  conv => lhs; unfold cutLen
  rw [if_neg h]

set_option maxRecDepth 100000 in
set_option maxHeartbeats 400000 in
theorem trim_any (l : List Nat) (A : Option Addr) (c : Nat) (w : World) (hc : l.length ≤ c) (hm : l.length ≤ 4611686018427387904) (hl : Limbs l) (hA : At w A l) :
    Calls Try.prog 73 #[.slice A l.length c] w fun e w' => e = .returned (.slice A (cutLen l l.length) c) ∧ w' = w := by
  have hn : l.length ≤ 4611686018427387904 := by omega
  go_enter Try.func73, Try.ntmps73
  go_wp2
  go_loop [3] (fun n => ∃ k : Nat, k ≤ l.length ∧ n = .int .i64 k ∧ cutLen l l.length = cutLen l k) (fun n => (intOf n).toNat)
  case atStart => exact ⟨l.length, by omega, rfl, rfl⟩
  case round =>
    obtain ⟨k, hk, rfl, hcut⟩ := hrel
    have HC : Hid (cutLen l l.length = cutLen l k) := hcut
    clear hcut
    cases k with
    | zero =>
      go_wp2
      go_ret
      exact ⟨by rw [HC.out]; rfl, rfl⟩
    | succ m =>
      obtain ⟨b, off, rfl, hb, hcell⟩ := hA (by intro h; subst h; simp at hk)
      have hx := hcell m (by omega)
      have h16 := nth_lt hl m
      clear hcell
      by_cases hz : nth l m = 0
      · rw [hz] at hx
        have HZ : Hid (nth l m = 0) := hz
        clear hz
        go_wp2
        go_round
        case rel => exact ⟨m, by omega, by go_num, by rw [HC.out, cutLen_zero HZ.out]⟩
        case measure => simp [intOf]
      · go_wp2
        go_ret
        exact ⟨by rw [HC.out, cutLen_pos hz]; simp, rfl⟩


set_option maxRecDepth 100000 in
set_option maxHeartbeats 400000 in
theorem signed_any (n : Nat) (A : Option Addr) (c : Nat) (w : World) (neg : Bool) :
    Calls Try.prog 54 #[.bool neg, .slice A n c] w fun e w' => e = .returned (.agg #[.bool (neg && decide (0 < n)), .slice A n c]) ∧ Below w.heap.size w w' := by
  cases neg
  · go_enter Try.func54, Try.ntmps54
    go_wp2
    exact bodyPost_ret (v := .agg #[.bool false, .slice A n c]) (by simp [results, Try.results54, go_sem]) rfl ⟨by simp, (by repeat (first | exact Below.refl _ _ | assumption | refine Below.alloc ?_ (by first | (simp; done) | (simp; omega) | omega) _ | refine Below.setCell ?_ (by first | (simp; done) | (simp; omega) | omega) _ | refine Below.drew ?_))⟩
  · by_cases h : 0 < n
    · go_enter Try.func54, Try.ntmps54
      go_wp2
      exact bodyPost_ret (v := .agg #[.bool true, .slice A n c]) (by simp [results, Try.results54, go_sem]) rfl ⟨by simp [h], (by repeat (first | exact Below.refl _ _ | assumption | refine Below.alloc ?_ (by first | (simp; done) | (simp; omega) | omega) _ | refine Below.setCell ?_ (by first | (simp; done) | (simp; omega) | omega) _ | refine Below.drew ?_))⟩
    · obtain rfl : n = 0 := by omega
      go_enter Try.func54, Try.ntmps54
      go_wp2
      exact bodyPost_ret (v := .agg #[.bool false, .slice A 0 c]) (by simp [results, Try.results54, go_sem]) rfl ⟨by simp, (by repeat (first | exact Below.refl _ _ | assumption | refine Below.alloc ?_ (by first | (simp; done) | (simp; omega) | omega) _ | refine Below.setCell ?_ (by first | (simp; done) | (simp; omega) | omega) _ | refine Below.drew ?_))⟩

/-- Whether a sign and limbs are a valid number. -/
def validB (neg : Bool) (l : List Nat) : Bool := if l.length = 0 then !neg else decide (l.length ≤ 1024 ∧ nth l (l.length - 1) ≠ 0)

set_option maxRecDepth 100000 in
set_option maxHeartbeats 400000 in
theorem valid_none (neg : Bool) (A : Option Addr) (c : Nat) (w : World) :
    Calls Try.prog 20 #[.agg #[.bool neg, .slice A 0 c]] w fun e w' => e = .returned (.bool (!neg)) ∧ Below w.heap.size w w' := by
  go_enter Try.func20, Try.ntmps20
  go_wp2
  go_ret
  exact ⟨rfl, (by repeat (first | exact Below.refl _ _ | assumption | refine Below.alloc ?_ (by first | (simp; done) | (simp; omega) | omega) _ | refine Below.setCell ?_ (by first | (simp; done) | (simp; omega) | omega) _ | refine Below.drew ?_))⟩

set_option maxRecDepth 100000 in
set_option maxHeartbeats 400000 in
theorem valid_some (neg : Bool) (m x : Nat) (b off c : Nat) (w : World) (hm : m ≤ 4611686018427387904) (hb : b < w.heap.size) (hx : w.cell? ⟨b, off + m, none⟩ = some (.int .u16 x)) (_h16 : x < 65536) :
    Calls Try.prog 20 #[.agg #[.bool neg, .slice (some ⟨b, off, none⟩) (m + 1) c]] w fun e w' => e = .returned (.bool (decide (m < 1024 ∧ x ≠ 0))) ∧ Below w.heap.size w w' := by
  by_cases h1 : m < 1024
  · go_enter Try.func20, Try.ntmps20
    go_wp2
    go_ret
    exact ⟨ret_bool (a := (x : Int) != 0) (by rw [Bool.eq_iff_iff]; simp [h1]), (by repeat (first | exact Below.refl _ _ | assumption | refine Below.alloc ?_ (by first | (simp; done) | (simp; omega) | omega) _ | refine Below.setCell ?_ (by first | (simp; done) | (simp; omega) | omega) _ | refine Below.drew ?_))⟩
  · go_enter Try.func20, Try.ntmps20
    go_wp2
    go_ret
    exact ⟨ret_bool (a := false) (by simp), (by repeat (first | exact Below.refl _ _ | assumption | refine Below.alloc ?_ (by first | (simp; done) | (simp; omega) | omega) _ | refine Below.setCell ?_ (by first | (simp; done) | (simp; omega) | omega) _ | refine Below.drew ?_))⟩

theorem downward_any (A : Option Addr) (n c : Nat) (w : World) :
    Calls Try.prog 77 #[.slice A n c] w fun e w' => e = .returned (.func (.func 87) #[] #[.pointer (some ⟨w.heap.size, 0, none⟩)]) ∧ w' = w.alloc (.cells #[.slice A n c] 24) := by
  go_enter Try.func77, Try.ntmps77
  go_wp2
  go_ret
  exact ⟨rfl, rfl⟩

end Go.Proofs.Ytgnidjhfiagfnaa
