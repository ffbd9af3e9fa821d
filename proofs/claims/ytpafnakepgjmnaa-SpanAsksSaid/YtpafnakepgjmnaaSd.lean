/- Neighbouring spans merged: the contract. -/
import Derived.Test.YtpafnakepgjmnaaSc
import Derived.Test.YtpafnakepgjmnaaOwn
import Derived.Test.YtpafnakepgjmnaaSp3
import Derived.RegionTactic
namespace Go.Proofs.Ytpafnakepgjmnaa
open Go.RowKit Go.Lib

/-- The call returns a slice of its own that holds l. -/
def RetSp (w : World) (l : List Sp) (e : Ending) (w' : World) : Prop := ∃ v, e = .returned v ∧ OwnSp w' w.heap.size v l ∧ Below w.heap.size w w'

theorem cell_two_new {w : World} {B : Nat} (hB : B = w.heap.size) (t : TypeId) (x y : Value) : ∀ (j : Nat) (u : Value), [x, y][j]? = some u → (w.alloc (.cells #[x, y] t)).cell? ((⟨B, 0, none⟩ : Addr).add j) = some u := by
  subst hB
  intro j u hu
  have hc := (Blk.new w t #[x, y]).cell j
  have e : (⟨w.heap.size, 0, none⟩ : Addr).add j = ⟨w.heap.size, j, none⟩ := by
    unfold Addr.add
    split
    · rename_i h; subst h; rfl
    · simp
  rw [e, hc]
  simpa using hu
theorem max_if (z y : Int) : max z y = if z < y then y else z := by split <;> omega
theorem merged_below {w wr w1 : World} {v : Value} {l : List Sp} {o1 o2 : Obj} {nq : Nat} (hb : Below w.heap.size w wr) (ho : OwnSp wr w.heap.size v l) (hg : (((wr.alloc o1).drewN nq).alloc o2).grownBy w1 v.ownBlock) : Below w.heap.size w w1 := by
  have h1 : Below w.heap.size w (((wr.alloc o1).drewN nq).alloc o2) := (below_drewN (hb.alloc hb.size o1) nq).alloc (by have := hb.size; simp; omega) o2
  exact h1.grown hg h1.size (fun k e => (World.ownsRow.lt ho k e).1)

set_option maxRecDepth 100000 in
set_option maxHeartbeats 2000000 in
theorem merge_any (l : List Sp) (A : Option Addr) (n c : Nat) (d : Int) (w : World) (hn : Hid (l.length = n)) (hm : n ≤ 8796093022000) (hv : Hid (Vd l)) (hd : 0 ≤ d) (hA : SpH w A l) :
    Calls Try.prog 51 #[.slice A n c, .int .i64 d] w (RetSp w (mergeL d l)) := by
  obtain ⟨i0, hi, hz0, hz1, hz2⟩ := info_parts info_sp
  have HI := hid hi
  have HZ := hid hz0
  have HZ1 := hid hz1
  have HZ2 := hid hz2
  clear hi hz0 hz1 hz2
  go_enter Try.func51, Try.ntmps51
  go_wp2
  go_loopw [5, 11] (fun v i wr => ∃ k : Nat, k ≤ n ∧ i = .int .i64 k ∧ OwnSp wr w.heap.size v (mergeL d (l.take k)) ∧ Below w.heap.size w wr) (fun _ i _ => n - (intOf i).toNat)
  case atStart => exact ⟨0, by omega, rfl, ownSp_nil _ _, Below.refl _ _⟩
  case round =>
    obtain ⟨k, hk, rfl, ho, hb⟩ := hrel
    have HB := hid hb
    by_cases hlt : k < n
    · obtain ⟨b, off, rfl, hbl, hc⟩ := hA.at_ hn.out (by omega)
      obtain ⟨x, hx⟩ : ∃ x, fr l k = x := ⟨_, rfl⟩
      obtain ⟨y, hy⟩ : ∃ y, tt l k = y := ⟨_, rfl⟩
      have c0 := (hb.cell (p := ⟨b, off + k * 2, none⟩) hbl).trans (hc k hlt).1
      have c1 := (hb.cell (p := ⟨b, off + k * 2 + 1, none⟩) hbl).trans (hc k hlt).2
      have hat := hv.out.at_ (i := k) (by have := hn.out; omega)
      have hla := mergeL_len d (l.take k)
      rw [List.length_take] at hla
      have hstep := mergeL_take (d := d) (l := l) (k := k) (by have := hn.out; omega)
      have hvd := (hv.out.take k).merge d
      rw [hx] at c0 hat
      rw [hy] at c1 hat
      rw [hx, hy] at hstep
      generalize mergeL d (l.take k) = acc at *
      have HS := hid hstep
      have HVd := hid hvd
      have hla : acc.length ≤ k := by omega
      obtain ⟨x0, xy, y6⟩ := hat
      clear hx hy hb hc hstep hvd
      obtain ⟨q, hq⟩ | hq : (∃ q, acc.length = q + 1) ∨ acc.length = 0 := by
        cases acc with
        | nil => right; rfl
        | cons s t => left; exact ⟨t.length, rfl⟩
      · obtain ⟨g, cc, rfl, hg1, hg2, hcq, hfq⟩ := ho.head hq
        have hL := HVd.out.at_ (i := q) (by omega)
        obtain ⟨z, hz⟩ : ∃ z, tt acc q = z := ⟨_, rfl⟩
        rw [hz] at hcq hL
        have hz1 := hL.2.2
        have hz0 : 0 ≤ z := by omega
        have HQ := hid hq
        have HZZ := hid hz
        clear hL hq hz
        have hqb : q ≤ 8796093022000 := by have := HQ.out; omega
        have hd1 : decide ((q : Int) < 0) = false := decide_eq_false (by omega)
        have HL : Hid (acc.length ≤ k) := hla
        by_cases hgt : d < x - z
        · have HC : Hid (acc.length = 0 ∨ d < (x, y).1 - tt acc (acc.length - 1)) := by right; rw [HQ.out, Nat.add_sub_cancel, HZZ.out]; exact hgt
          have HO := hid ho
          clear ho hla
          go_wp2
          go_quiet (fail)
          go_wp2_with (at_builtin; refine wpList_append_own _ rfl _ _ 22 rfl w.heap.size 34 i0 (.agg #[.int .i64 0, .int .i64 0]) 2 16 Try.underlying22 HI.out HZ.out HZ1.out HZ2.out rfl (by decide) _ _ _ rfl (((HO.out.alloc _).drewN _).alloc _) ⟨wr.heap.size + 1, 0, none⟩ 1 1 [.int .i64 x, .int .i64 y] rfl rfl (cell_two_new (by simp) _ _ _) (by simp [Value.oneCell']) (by unfold maxLen; have := HL.out; omega) (by have := HL.out; omega) (by have := HB.out.size; simp; omega) ?_; intro v' w1 hown1 hgrow1 _)
          have hb1 := merged_below HB.out HO.out (nq := nq) hgrow1
          have ho1 : OwnSp w1 w.heap.size v' (mergeL d (l.take (k + 1))) := by
            rw [HS.out, mstep_new HC.out]
            have := hown1
            unfold OwnSp
            rw [cells_append, List.length_append]
            exact this
          clear hown1 hgrow1
          go_roundw
          case rel => exact ⟨k + 1, by omega, by go_num, ho1, hb1⟩
          case measure => simp [intOf]; omega
        · have HC : Hid (mstep d acc (x, y) = ext acc (if z < y then y else z)) := by show _ = _; rw [mstep_ext HQ.out (by rw [HZZ.out]; exact hgt), HZZ.out, max_if]
          have HO := hid ho
          clear ho hla
          go_wp2
          go_quiet (fail)
          go_wp2
          have bx := ((Blk.new wr 34 #[.int .i64 x, .int .i64 y]).drewN nq)
          have q1 := (bx.cell 1).trans (b := some (Value.int .i64 y)) rfl
          have HOX := hid ((HO.out.alloc (.cells #[.int .i64 x, .int .i64 y] 34)).drewN nq)
          have HBX := hid (below_drewN (HB.out.alloc HB.out.size (.cells #[.int .i64 x, .int .i64 y] 34)) nq)
          have hcx : ((wr.alloc (.cells #[.int .i64 x, .int .i64 y] 34)).drewN nq).cell? ⟨g, q * 2 + 1, none⟩ = some (.int .i64 z) := (World.cell?_alloc_lt wr _ ⟨g, q * 2 + 1, none⟩ hg2).trans hcq
          have hfx : ((wr.alloc (.cells #[.int .i64 x, .int .i64 y] 34)).drewN nq).frozen? ⟨g, q * 2 + 1, none⟩ = false := by
            have := OwnSp.head HOX.out HQ.out
            obtain ⟨g', c', e, _, _, _, hf⟩ := this
            cases e
            exact hf
          generalize (wr.alloc (.cells #[.int .i64 x, .int .i64 y] 34)).drewN nq = wx at *
          clear hcq hfq c0 c1 bx
          go_region
          all_goals
            go_wp2
            go_roundw
            case rel => exact ⟨k + 1, by omega, by go_num, by rw [HS.out, HC.out]; exact OwnSp.ext_ HOX.out HQ.out _, (HBX.out.setCell (p := ⟨g, q * 2 + 1, none⟩) hg1 _).drew⟩
            case measure => simp [intOf]; omega
      · obtain ⟨A0, cc, rfl, _, _, _⟩ := ho.view
        have HC : Hid (acc.length = 0 ∨ d < (x, y).1 - tt acc (acc.length - 1)) := Or.inl hq
        have HO := hid ho
        have HL : Hid (acc.length ≤ k) := hla
        rw [hq] at HO ⊢
        clear ho hla hq
        go_wp2
        go_quiet (fail)
        go_wp2_with (at_builtin; refine wpList_append_own _ rfl _ _ 22 rfl w.heap.size 34 i0 (.agg #[.int .i64 0, .int .i64 0]) 2 16 Try.underlying22 HI.out HZ.out HZ1.out HZ2.out rfl (by decide) _ _ _ rfl (((HO.out.alloc _).drewN _).alloc _) ⟨wr.heap.size + 1, 0, none⟩ 1 1 [.int .i64 x, .int .i64 y] rfl rfl (cell_two_new (by simp) _ _ _) (by simp [Value.oneCell']) (by unfold maxLen; have := HL.out; omega) (by have := HL.out; omega) (by have := HB.out.size; simp; omega) ?_; intro v' w1 hown1 hgrow1 _)
        have hb1 := merged_below HB.out HO.out (nq := nq) hgrow1
        have ho1 : OwnSp w1 w.heap.size v' (mergeL d (l.take (k + 1))) := by
          rw [HS.out, mstep_new HC.out]
          have := hown1
          unfold OwnSp
          rw [cells_append, List.length_append]
          exact this
        clear hown1 hgrow1
        go_roundw
        case rel => exact ⟨k + 1, by omega, by go_num, ho1, hb1⟩
        case measure => simp [intOf]; omega
    · go_wp2
      go_ret
      exact ⟨_, rfl, by rw [List.take_of_length_le (by have := hn.out; omega)] at ho; exact ho, hb⟩
end Go.Proofs.Ytpafnakepgjmnaa
