/- The kit's functions: SameSpans, Pick; set. -/
import Derived.Test.YtpafnakepgjmnaaSs
import Derived.Laws.StructEq
namespace Go.Proofs.Ytpafnakepgjmnaa
open Go.RowKit Go.Lib Go.Shelf

theorem neq_sp (a b x y : Int) (w : World) : (binOp .neq 34 (.agg #[.int .i64 a, .int .i64 b]) (.agg #[.int .i64 x, .int .i64 y])).run Try.prog w = .ok (.bool (!(a == x && b == y))) w := by
  have u3 := Try.underlying3
  have a3 := Try.isAgg3
  have z3 := Try.sizeOf3
  have hS : Try.prog.underlying 34 = some (.struct (Try.prog.fieldsOf 34)) := by kernel_rfl
  have hp : Try.prog.stoodInHeld 34 = false := by kernel_rfl
  rw [run_neq_struct, show (10000 : Nat) = 9999 + 1 from rfl, run_equalIn_agg w 9999 34 _ _ hS hp]
  simp only [Program.fieldsOf, Try.underlying34]
  go_simp
  by_cases h1 : a = x <;> by_cases h2 : b = y <;> simp [h1, h2]

theorem ext_sp {a b : List Sp} (h : a.length = b.length) (hi : ∀ i, i < a.length → fr a i = fr b i ∧ tt a i = tt b i) : a = b := by
  apply List.ext_getElem h
  intro i h1 h2
  have := hi i h1
  unfold fr tt at this
  rw [List.getD_eq_getElem?_getD, List.getD_eq_getElem?_getD, List.getElem?_eq_getElem h1, List.getElem?_eq_getElem h2] at this
  exact Prod.ext this.1 this.2

set_option maxRecDepth 100000 in
set_option maxHeartbeats 2000000 in
theorem same_any (la lb : List Sp) (A B : Option Addr) (na ca nb cb : Nat) (w : World) (hna : Hid (la.length = na)) (hnb : Hid (lb.length = nb)) (hma : na ≤ 4611686018427387904) (hmb : nb ≤ 4611686018427387904) (hA : SpH w A la) (hB : SpH w B lb) :
    Calls Try.prog 25 #[.slice A na ca, .slice B nb cb] w fun e w' => e = .returned (.bool (decide (la = lb))) ∧ Below w.heap.size w w' := by
  by_cases hl : na = nb
  · subst hl
    have hneq := neq_sp
    go_enter Try.func25, Try.ntmps25
    go_wp2
    go_loopw [5] (fun i wr => ∃ k : Nat, k ≤ na ∧ i = .int .i64 k ∧ Hid (∀ i, i < k → fr la i = fr lb i ∧ tt la i = tt lb i) ∧ Below w.heap.size w wr) (fun i _ => na - (intOf i).toNat)
    case atStart => exact ⟨0, by omega, rfl, fun i hi => absurd hi (by omega), Below.refl _ _⟩
    case round =>
      obtain ⟨k, hk, rfl, HG, hb⟩ := hrel
      by_cases hlt : k < na
      · obtain ⟨b, off, rfl, hbl, hc⟩ := hA.at_ hna.out (by omega)
        obtain ⟨b', off', rfl, hbl', hc'⟩ := hB.at_ hnb.out (by omega)
        obtain ⟨x, hx⟩ : ∃ x, fr la k = x := ⟨_, rfl⟩
        obtain ⟨y, hy⟩ : ∃ y, tt la k = y := ⟨_, rfl⟩
        obtain ⟨x', hx'⟩ : ∃ x, fr lb k = x := ⟨_, rfl⟩
        obtain ⟨y', hy'⟩ : ∃ y, tt lb k = y := ⟨_, rfl⟩
        have c0 := (hb.cell (p := ⟨b, off + k * 2, none⟩) hbl).trans (hc k hlt).1
        have c1 := (hb.cell (p := ⟨b, off + k * 2 + 1, none⟩) hbl).trans (hc k hlt).2
        have d0 := (hb.cell (p := ⟨b', off' + k * 2, none⟩) hbl').trans (hc' k hlt).1
        have d1 := (hb.cell (p := ⟨b', off' + k * 2 + 1, none⟩) hbl').trans (hc' k hlt).2
        rw [hx] at c0
        rw [hy] at c1
        rw [hx'] at d0
        rw [hy'] at d1
        have HX := hid hx
        have HY := hid hy
        have HX' := hid hx'
        have HY' := hid hy'
        have HB := hid hb
        clear hx hy hx' hy' hb hA hB hc hc'
        by_cases he : x = x' ∧ y = y'
        · have hq : (!(x == x' && y == y')) = false := by simp [he.1, he.2]
          have HGS : Hid (∀ i, i < k + 1 → fr la i = fr lb i ∧ tt la i = tt lb i) := fun i hi => by
            by_cases g : i = k
            · subst g; rw [HX.out, HY.out, HX'.out, HY'.out]; exact he
            · exact HG.out i (by omega)
          have hneq' : ∀ w, (binOp .neq 34 (.agg #[.int .i64 x, .int .i64 y]) (.agg #[.int .i64 x', .int .i64 y'])).run Try.prog w = .ok (.bool false) w := fun w => by rw [hneq, hq]
          clear he hq hneq
          go_wp2
          go_quiet (fail)
          go_wp2
          go_roundw
          case rel => exact ⟨k + 1, by omega, by go_num, HGS, below_drewN HB.out _⟩
          case measure => simp [intOf]; omega
        · have HD : Hid (decide (la = lb) = false) := decide_eq_false fun e => by
            subst e
            rw [HX.out] at HX'
            rw [HY.out] at HY'
            exact he ⟨HX'.out, HY'.out⟩
          have hneq' : ∀ w, (binOp .neq 34 (.agg #[.int .i64 x, .int .i64 y]) (.agg #[.int .i64 x', .int .i64 y'])).run Try.prog w = .ok (.bool true) w := fun w => by
            rw [hneq]
            congr 2
            by_cases h1 : x = x' <;> by_cases h2 : y = y' <;> simp_all
          clear he hneq
          go_wp2
          go_quiet (fail)
          go_wp2
          go_ret
          exact ⟨by rw [HD.out]; rfl, below_drewN HB.out _⟩
      · have HD : Hid (decide (la = lb) = true) := decide_eq_true (ext_sp (by rw [hna.out, hnb.out]) fun i hi => HG.out i (by have := hna.out; omega))
        go_wp2
        go_ret
        exact ⟨by rw [HD.out]; rfl, hb⟩
  · have HD : Hid (decide (la = lb) = false) := decide_eq_false fun e => hl (by rw [← hna.out, ← hnb.out, e])
    have hq : ((na : Int) != (nb : Int)) = true := by rw [bne_iff_ne]; omega
    clear hl
    go_enter Try.func25, Try.ntmps25
    go_wp2
    go_ret
    exact ⟨by rw [HD.out]; rfl, Below.refl _ _⟩

set_option maxRecDepth 100000 in
set_option maxHeartbeats 400000 in
theorem set_any (A : Option Addr) (n c : Nat) (w : World) : Calls Try.prog 37 #[.slice A n c] w fun e w' => e = .returned (.slice A n c) ∧ w' = w := by
  go_enter Try.func37, Try.ntmps37
  go_wp2
  go_ret
  exact ⟨rfl, rfl⟩


set_option maxRecDepth 100000 in
set_option maxHeartbeats 400000 in
theorem pick_any (x n : Int) (w : World) (hn : 1 ≤ n) (hn2 : n ≤ 1000000) (_h1 : -9223372036854775808 ≤ x) (_h2 : x ≤ 9223372036854775807) : Calls Try.prog 27 #[.int .i64 x, .int .i64 n] w fun e w' => e = .returned (.int .i64 (x % n)) ∧ w' = w := by
  obtain ⟨q, hq⟩ : ∃ q, x.tmod n = q := ⟨_, rfl⟩
  have hb : -n < q ∧ q < n := by
    rw [← hq]
    have h1 := Int.tmod_lt_of_pos x (show 0 < n by omega)
    have h2 := Int.tmod_lt_of_pos (-x) (show 0 < n by omega)
    rw [Int.neg_tmod] at h2
    omega
  have hv : x % n = if q < 0 then q + n else q := by
    rw [← hq]
    have h0 := Int.emod_nonneg x (show n ≠ 0 by omega)
    have h3 := Int.emod_lt_of_pos x (show 0 < n by omega)
    rw [Int.tmod_eq_emod]
    split
    · rw [if_neg (by omega)]; omega
    · rw [if_pos (by omega)]; omega
  obtain ⟨hb1, hb2⟩ := hb
  have HV := hid hv
  have HQ := hid hq
  clear hv
  by_cases h : q < 0
  · have HE : Hid (x % n = q + n) := by show _ = _; rw [HV.out, if_pos h]
    generalize x % n = r at *
    go_enter Try.func27, Try.ntmps27
    go_wp2
    go_ret
    exact ⟨by rw [HE.out]; rfl, rfl⟩
  · have HE : Hid (x % n = q) := by show _ = _; rw [HV.out, if_neg h]
    generalize x % n = r at *
    go_enter Try.func27, Try.ntmps27
    go_wp2
    go_ret
    exact ⟨by rw [HE.out]; rfl, rfl⟩
end Go.Proofs.Ytpafnakepgjmnaa
