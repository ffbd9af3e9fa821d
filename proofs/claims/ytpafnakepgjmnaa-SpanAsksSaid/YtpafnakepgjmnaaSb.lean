/- Spans in memory; whether they are a set. -/
import Derived.Test.YtpafnakepgjmnaaSa
import Derived.Test.YtpafnakepgjmnaaBlk
import Derived.LoopTactic
import Derived.Below
namespace Go.Proofs.Ytpafnakepgjmnaa
open Go.RowKit Go.Lib

/-- In world w the cells from an address on hold the spans l. -/
def SpH (w : World) (A : Option Addr) (l : List Sp) : Prop :=
  l ≠ [] → ∃ b off, A = some ⟨b, off, none⟩ ∧ b < w.heap.size ∧ ∀ i, i < l.length → w.cell? ⟨b, off + i * 2, none⟩ = some (.int .i64 (fr l i)) ∧ w.cell? ⟨b, off + i * 2 + 1, none⟩ = some (.int .i64 (tt l i))

theorem spH_nil (w : World) (A : Option Addr) : SpH w A [] := fun h => absurd rfl h
theorem SpH.at_ {w : World} {A : Option Addr} {l : List Sp} {n : Nat} (h : SpH w A l) (hn : l.length = n) (h0 : 0 < n) : ∃ b off, A = some ⟨b, off, none⟩ ∧ b < w.heap.size ∧ ∀ i, i < n → w.cell? ⟨b, off + i * 2, none⟩ = some (.int .i64 (fr l i)) ∧ w.cell? ⟨b, off + i * 2 + 1, none⟩ = some (.int .i64 (tt l i)) := by
  subst hn
  exact h (by intro e; subst e; simp at h0)
theorem SpH.keep {w w' : World} {A : Option Addr} {l : List Sp} (h : SpH w A l) (hs : w.heap.size ≤ w'.heap.size) (hk : ∀ p : Addr, p.block < w.heap.size → w'.cell? p = w.cell? p) : SpH w' A l := fun hl => by
  obtain ⟨b, off, e, hb, hc⟩ := h hl
  exact ⟨b, off, e, by omega, fun i hi => ⟨(hk _ hb).trans (hc i hi).1, (hk _ hb).trans (hc i hi).2⟩⟩
theorem SpH.below {w w' : World} {A : Option Addr} {l : List Sp} (h : SpH w A l) (hb : Below w.heap.size w w') : SpH w' A l := h.keep hb.size fun _ hp => hb.cell hp
theorem bcell {W w1 : World} (hb : Below W.heap.size W w1) : (∀ b o, b < W.heap.size → w1.cell? ⟨b, o, none⟩ = W.cell? ⟨b, o, none⟩) ∧ (∀ b o, b < W.heap.size → w1.frozen? ⟨b, o, none⟩ = W.frozen? ⟨b, o, none⟩) :=
  ⟨fun b o h => hb.cell (p := ⟨b, o, none⟩) h, fun b o h => hb.frozen (p := ⟨b, o, none⟩) h⟩

def validB (l : List Sp) : Bool := decide (IsSet l)
theorem validB_true {l : List Sp} : validB l = true ↔ IsSet l := decide_eq_true_iff
theorem validB_false {l : List Sp} : validB l = false ↔ ¬ IsSet l := decide_eq_false_iff_not

/-- The spans ahead of k are as a set's are. -/
def Good (l : List Sp) (k : Nat) : Prop := ∀ i, i < k → 0 ≤ fr l i ∧ fr l i < tt l i ∧ tt l i ≤ 65536 ∧ (0 < i → tt l (i - 1) < fr l i)
theorem good_zero (l : List Sp) : Good l 0 := fun i hi => absurd hi (by omega)
theorem Good.succ {l : List Sp} {k : Nat} (h : Good l k) (h1 : 0 ≤ fr l k) (h2 : fr l k < tt l k) (h3 : tt l k ≤ 65536) (h4 : 0 < k → tt l (k - 1) < fr l k) : Good l (k + 1) := fun i hi => by
  by_cases g : i < k
  · exact h i g
  · obtain rfl : i = k := by omega
    exact ⟨h1, h2, h3, h4⟩

set_option maxRecDepth 100000 in
set_option maxHeartbeats 2000000 in
theorem valid_any (l : List Sp) (A : Option Addr) (n c : Nat) (w : World) (hn : Hid (l.length = n)) (hm : n ≤ 4611686018427387904) (hA : SpH w A l) :
    Calls Try.prog 19 #[.slice A n c] w fun e w' => e = .returned (.bool (validB l)) ∧ Below w.heap.size w w' := by
  go_enter Try.func19, Try.ntmps19
  go_wp2
  go_loopw [7] (fun i wr => ∃ k : Nat, k ≤ n ∧ i = .int .i64 k ∧ Good l k ∧ Below w.heap.size w wr) (fun i _ => n - (intOf i).toNat)
  case atStart => exact ⟨0, by omega, rfl, good_zero l, Below.refl _ _⟩
  case round =>
    obtain ⟨k, hk, rfl, hg, hb⟩ := hrel
    have HG := hid hg
    have HB := hid hb
    clear hg
    by_cases hlt : k < n
    · obtain ⟨b, off, rfl, hbl, hc⟩ := hA.at_ hn.out (by omega)
      obtain ⟨x, hx⟩ : ∃ x, fr l k = x := ⟨_, rfl⟩
      obtain ⟨y, hy⟩ : ∃ y, tt l k = y := ⟨_, rfl⟩
      have c0 := (hb.cell (p := ⟨b, off + k * 2, none⟩) hbl).trans (hc k hlt).1
      have c1 := (hb.cell (p := ⟨b, off + k * 2 + 1, none⟩) hbl).trans (hc k hlt).2
      rw [hx] at c0
      rw [hy] at c1
      have HX := hid hx
      have HY := hid hy
      clear hx hy hb
      go_wp2_with fail
      refine (isSpan_any _ _ _).mono ?_
      rintro e w1 ⟨rfl, h1⟩
      have b1 := (Blk.new wr 34 #[.int .i64 x, .int .i64 y]).below h1 (by simp)
      have hb1 := HB.out.trans ((below_new h1).mono HB.out.size)
      have c2 := (hb1.cell (p := ⟨b, off + k * 2, none⟩) hbl).trans (hc k hlt).1
      clear h1
      cases hok : okB x y
      · have HV : Hid (validB l = false) := validB_false.2 fun h => by
          have := h.at_ (i := k) (by have := hn.out; omega)
          rw [HX.out, HY.out] at this
          exact okB_false.1 hok ⟨this.1, by omega, by omega⟩
        go_wp2
        go_ret
        exact ⟨by rw [HV.out]; rfl, hb1⟩
      · have q0 := (b1.cell 0).trans (b := some (Value.int .i64 x)) rfl
        have q1 := (b1.cell 1).trans (b := some (Value.int .i64 y)) rfl
        go_wp2_with fail
        refine (isEmpty_any _ _ _).mono ?_
        rintro e w2 ⟨rfl, h2⟩
        have hb2 := hb1.trans (h2.mono hb1.size)
        have b2 := b1.below h2 b1.lt
        have p0 := (b2.cell 0).trans (b := some (Value.int .i64 x)) rfl
        have p1 := (b2.cell 1).trans (b := some (Value.int .i64 y)) rfl
        have HO := hid hok
        clear h2 hok
        cases hem : emB x y
        · have ho := okB_true.1 HO.out
          have hlt2 : x < y := by have := of_decide_eq_false hem; omega
          have hy6 : y ≤ 65536 := ho.2.2
          have hx0 : 0 ≤ x := ho.1
          clear ho hem
          by_cases hk0 : k = 0
          · have HGS : Hid (Good l (k + 1)) := HG.out.succ (by rw [HX.out]; exact hx0) (by rw [HX.out, HY.out]; exact hlt2) (by rw [HY.out]; exact hy6) (fun g => by omega)
            have hd : decide (0 < (k : Int)) = false := by rw [hk0]; rfl
            go_wp2
            go_quiet (fail)
            go_wp2
            go_roundw
            case rel => exact ⟨k + 1, by omega, by go_num, HGS.out, below_drewN hb2 _⟩
            case measure => simp [intOf]; omega
          · obtain ⟨m, rfl⟩ : ∃ m, k = m + 1 := ⟨k - 1, by omega⟩
            have c3 := (hb2.cell (p := ⟨b, off + m * 2 + 1, none⟩) hbl).trans (hc m (by omega)).2
            obtain ⟨z, hz⟩ : ∃ z, tt l m = z := ⟨_, rfl⟩
            have HZ := hid hz
            rw [hz] at c3
            clear hz
            have hd : decide (0 < ((m + 1 : Nat) : Int)) = true := decide_eq_true (by omega)
            by_cases hxz : x ≤ z
            · have HV : Hid (validB l = false) := validB_false.2 fun h => by
                have := (h.at_ (i := m + 1) (by have := hn.out; omega)).2.2.2 (by omega)
                rw [HX.out, Nat.add_sub_cancel, HZ.out] at this
                omega
              go_wp2
              go_quiet (fail)
              go_wp2
              go_ret
              exact ⟨by rw [HV.out]; rfl, below_drewN hb2 _⟩
            · have HGS : Hid (Good l (m + 1 + 1)) := HG.out.succ (by rw [HX.out]; exact hx0) (by rw [HX.out, HY.out]; exact hlt2) (by rw [HY.out]; exact hy6) (fun g => by rw [HX.out, Nat.add_sub_cancel, HZ.out]; omega)
              go_wp2
              go_quiet (fail)
              go_wp2
              go_roundw
              case rel => exact ⟨m + 1 + 1, by omega, by go_num, HGS.out, below_drewN hb2 _⟩
              case measure => simp [intOf]; omega
        · have HV : Hid (validB l = false) := validB_false.2 fun h => by
            have := h.at_ (i := k) (by have := hn.out; omega)
            rw [HX.out, HY.out] at this
            have := of_decide_eq_true hem
            omega
          go_wp2
          go_ret
          exact ⟨by rw [HV.out]; rfl, hb2⟩
    · have HV : Hid (validB l = true) := validB_true.2 (isSet_of fun i hi => HG.out i (by have := hn.out; omega))
      go_wp2
      go_ret
      exact ⟨by rw [HV.out]; rfl, hb⟩
end Go.Proofs.Ytpafnakepgjmnaa
