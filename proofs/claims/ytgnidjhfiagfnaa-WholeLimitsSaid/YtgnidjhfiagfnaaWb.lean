/- The loops over limbs from the most significant one on: what the iterator hands to each round. Conditions: the limbs that are still to come keep their values. -/
import Derived.RangeFuncNested
import Derived.RangeFuncBound
import Derived.RangeFuncCalls
import Derived.RangeFuncLeaves
import Derived.Shelf.Abstract
import Derived.Shelf.RegionOpen
import Derived.WalkKit
import Derived.OwnWalkIn
import Derived.TacticsInMore
import Derived.LoopNIn
import Derived.LoopIn
import Derived.Test.YtgnidjhfiagfnaaProg
import Derived.Test.YtgnidjhfiagfnaaNums
namespace Go.Proofs.Ytgnidjhfiagfnaa
open Go.RowKit Go.Shelf
attribute [local go_sem] Oper.semAt_some

set_option maxRecDepth 100000 in
set_option maxHeartbeats 400000 in
theorem down_in (F : Fence) (n : Nat) (h87 : F.fn 87) (hro : F.round = none) (hn : 1 ≤ n) (l Bs b off len cap : Nat) (A : Option Addr) (hlen : len ≤ 4611686018427387904) (hA : 0 < len → A = some ⟨b, off, none⟩) (x : Nat → Nat) (J : Nat → World → Prop) (Jx : World → Prop)
    (hJ : ∀ k W, J k W → W.cell? ⟨Bs, 0, none⟩ = some (.slice A len cap))
    (hc : ∀ k W, k < len → J (k + 1) W → W.cell? ⟨b, off + k, none⟩ = some (.int .u16 (x k)))
    (hY : ∀ k W, k < len → J (k + 1) W → YieldAt F (n - 1) Try.prog l #[.int .i64 k, .int .u16 (x k)] W fun e W' => (e = .returned (.bool true) ∧ J k W') ∨ (e = .returned (.bool false) ∧ Jx W'))
    (W : World) (h0 : J len W) :
    CallsIn F n Try.prog 87 #[.func (.yield l) #[] #[], .pointer (some ⟨Bs, 0, none⟩)] W fun e W' => (∃ v, e = .returned v) ∧ (J 0 W' ∨ Jx W') := by
  have hs := hJ _ _ h0
  refine callsIn_of_wp Try.func87 rfl h87 ?_ hro
  simp only [Try.ntmps87, List.size_toArray, List.length_cons, List.length_nil, Nat.reduceAdd, Nat.reduceSub, Array.replicate_succ, Array.replicate_zero, List.push_toArray, List.append_toArray, List.nil_append, List.cons_append]
  gi_wp2
  gi_loopw [3] (fun i wr => ∃ k : Nat, k ≤ len ∧ i = .int .i64 ((k : Int) - 1) ∧ J k wr) (fun i _ => (intOf i + 1).toNat)
  case atStart => exact ⟨len, Nat.le_refl _, rfl, h0⟩
  case round =>
    obtain ⟨k, hk, rfl, hJk⟩ := hrel
    cases k with
    | zero =>
      gi_wp2
      go_end0
      exact ⟨⟨_, rfl⟩, .inl hJk⟩
    | succ m =>
      obtain rfl := hA (by omega)
      have hs2 := hJ _ _ hJk
      have hx := hc m wr (by omega) hJk
      obtain ⟨fn, tmps, assign, body, hy, hR⟩ := hY m wr (by omega) hJk
      clear hJ hc hY hs
      have e1 : (((m + 1 : Nat) : Int) - 1) = (m : Int) := by omega
      gi_wp2
      refine hR.mono ?_
      rintro e W3 (⟨rfl, hJ3⟩ | ⟨rfl, hJx3⟩)
      · gi_wp2
        go_roundw
        case rel => exact ⟨m, by omega, rfl, hJ3⟩
        case measure => simp [intOf]
      · gi_wp2
        refine bodyPost_ret (results_none rfl _ _ _) rfl ?_
        exact ⟨⟨_, rfl⟩, .inr hJx3⟩
end Go.Proofs.Ytgnidjhfiagfnaa
