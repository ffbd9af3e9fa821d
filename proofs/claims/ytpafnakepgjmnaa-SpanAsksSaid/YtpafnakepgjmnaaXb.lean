/- Opening a slice of spans among the rows' arguments. -/
import Derived.Test.YtpafnakepgjmnaaXa
import Derived.Deep.SlicePairs
namespace Go.Proofs.Ytpafnakepgjmnaa
open Go.ChangeShapes Go.WideShapes Go.ChangeAt Go.RowKit Go.Joins Go.Lib

theorem readS : Try.prog.readableRec 22 = true := by kernel_rfl
theorem manyS : 22 < Try.prog.types.size := of_decide_eq_true (by kernel_rfl)
theorem cellS : Try.prog.cellsOf 34 = 2 := by kernel_rfl
theorem cellI : Try.prog.cellsOf 3 = 1 := by kernel_rfl
theorem byteS : Try.prog.bytesOf 34 = 16 := by kernel_rfl

section
variable {H : Type} {enc : TypeId × Value → H}

theorem open_spans {W : World} {base : Nat} {v : Value} {d : DataW H} {p : List MemPlace} (hv : Value.okWide Try.prog W .any base 22 v) (h : DataW.Trod enc Try.prog W 0 (fun _ => true) true 22 v d p) :
    ∃ (A : Option Addr) (n c : Nat) (l : List Sp), v = .slice A n c ∧ l.length = n ∧ SpH W A l ∧ (A = none → n = 0 ∧ c = 0) := by
  obtain ⟨A, n, c, rfl⟩ := okWide_slice Try.underlying22 hv
  obtain ⟨fuel, hf⟩ := h
  rcases Go.Deep.open_slice_pairs Try.underlying22 Try.underlying34 cellS rfl rfl cellI cellI hf with ⟨hcs, _⟩ | ⟨a, len, cap, m, k, V0, V1, D0, D1, P0, P1, hcs, _, hl, hm, hmm, _, hx⟩
  · simp [Value.cells] at hcs
    obtain ⟨rfl, rfl, rfl⟩ := hcs
    exact ⟨none, 0, 0, [], rfl, rfl, spH_nil _ _, fun _ => ⟨rfl, rfl⟩⟩
  · simp [Value.cells] at hcs
    obtain ⟨rfl, rfl, rfl⟩ := hcs
    have hmc : m = c := by simpa using hmm
    have hz : ∀ i, i < m → ∃ x y : Int, V0 i = .int .i64 x ∧ V1 i = .int .i64 y := fun i hi => by
      obtain ⟨_, _, t0, t1⟩ := hx i hi
      obtain ⟨x, e0, _⟩ := DataW.trod_int Try.underlying3 t0
      obtain ⟨y, e1, _⟩ := DataW.trod_int Try.underlying3 t1
      simp at e0 e1
      exact ⟨x, y, e0, e1⟩
    refine ⟨some a, n, c, (List.range n).map fun i => ((match V0 i with | .int _ x => x | _ => 0), (match V1 i with | .int _ x => x | _ => 0)), rfl, by simp, ?_, fun e => by cases e⟩
    intro hne
    have hn0 : 0 < n := by
      cases n with
      | zero => simp at hne
      | succ => omega
    obtain ⟨b, off, spot⟩ := a
    have h0 := (hx 0 (by omega)).1
    have hspot : spot = none := by simpa [Addr.add] using World.cell?_spot h0
    subst hspot
    have hadd : ∀ j, (⟨b, off, none⟩ : Addr).add j = ⟨b, off + j, none⟩ := fun j => Go.WideShapes.add_plain b off j
    refine ⟨b, off, rfl, World.block_lt_of_cell? W _ (by rw [hadd] at h0; exact h0), fun i hi => ?_⟩
    have hin : i < n := by simpa using hi
    obtain ⟨c0, c1, _, _⟩ := hx i (by omega)
    obtain ⟨x, y, e0, e1⟩ := hz i (by omega)
    rw [hadd] at c0 c1
    have f1 : fr ((List.range n).map fun i => ((match V0 i with | .int _ x => x | _ => 0), (match V1 i with | .int _ x => x | _ => 0))) i = x := by
      unfold fr; simp [hin, e0]
    have f2 : tt ((List.range n).map fun i => ((match V0 i with | .int _ x => x | _ => 0), (match V1 i with | .int _ x => x | _ => 0))) i = y := by
      unfold tt; simp [hin, e1]
    rw [f1, f2, c0, e0]
    exact ⟨rfl, by rw [Nat.add_assoc, c1, e1]⟩
end
end Go.Proofs.Ytpafnakepgjmnaa
