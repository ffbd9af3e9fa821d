/- DivMod of any two numbers. Conditions: the numbers are in memory, and not too long. -/
import Derived.Test.YtgnidjhfiagfnaaYg
import Derived.Test.YtgnidjhfiagfnaaXn
import Derived.Test.YtgnidjhfiagfnaaYk
namespace Go.Proofs.Ytgnidjhfiagfnaa
open Go.RowKit

theorem divc_any {la lb : List Nat} (ha : Norm la) (hb : Norm lb) (hla : la.length ≤ 4000) (hlb : lb.length ≤ 4000) (h0 : lb ≠ []) : DivC la lb := by
  by_cases h : lb.length = 1 ∨ val la < val lb
  · exact divc_small ha hb hla hlb h0 h
  · have hl0 : lb.length ≠ 0 := fun e => h0 (List.eq_nil_of_length_eq_zero e)
    obtain ⟨p, hp⟩ : ∃ p, lb.length = p + 2 := ⟨lb.length - 2, by omega⟩
    intro W va vb sa sb
    obtain ⟨na, A, ca, hna, rfl, sa⟩ := sl_len sa
    obtain ⟨nb, B, cb, hnb, rfl, sb⟩ := sl_len sb
    have hAt : At W B lb := by
      obtain ⟨_, _, A', c', hv, _, _, h⟩ := sb
      injection hv with e1 e2 e3
      subst e1
      exact h
    obtain ⟨bB, oB, rfl, hbl, hc⟩ := hAt.cells (by omega)
    obtain rfl : nb = p + 2 := by have := hnb.out; omega
    exact divide_long la lb A na p ca bB oB cb W sa sb hna hp ha hb (by have := hna.out; omega) (by omega) (by omega) (hc (p + 1) (by omega)) hbl

theorem divmod_zz {w : World} {va vb : Value} {y z : Int} (hA : WhZ w va y) (hB : WhZ w vb z) (hy : Lz 1024 y) (hz : Lz 1024 z) (h0 : z ≠ 0) :
    Calls Try.prog 29 #[va, vb] w fun e w' => ∃ q r, e = .returned (.tuple #[q, r, .int .i64 0]) ∧ WhZ w' q (qz y z) ∧ WhZ w' r (rz y z) ∧ Below w.heap.size w w' := by
  have hne : digs z.natAbs ≠ [] := fun e => h0 (by have := digs_eq_nil.1 e; omega)
  have hd := divc_any (norm_digs y.natAbs) (norm_digs z.natAbs) (Nat.le_trans hy (by omega)) (Nat.le_trans hz (by omega)) hne
  have := divmod_ok hA hB (by rw [hy.ok (Nat.le_refl _), hz.ok (Nat.le_refl _)]; rfl) hne hd
  rw [val_digs, val_digs] at this
  exact this
end Go.Proofs.Ytgnidjhfiagfnaa
