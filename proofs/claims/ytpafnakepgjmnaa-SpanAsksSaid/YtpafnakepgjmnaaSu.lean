/- Built and in. -/
import Derived.Test.YtpafnakepgjmnaaSt
namespace Go.Proofs.Ytpafnakepgjmnaa
open Go.RowKit Go.Lib Go.Shelf

/-- In world w the cells from an address on hold small numbers. -/
def U16H (w : World) (A : Option Addr) (n : Nat) (zs : List Int) : Prop :=
  (∀ i, 0 ≤ zs.getD i 0 ∧ zs.getD i 0 ≤ 65535) ∧ (0 < n → ∃ b off, A = some ⟨b, off, none⟩ ∧ b < w.heap.size ∧ ∀ i, i < n → w.cell? ⟨b, off + i, none⟩ = some (.int .u16 (zs.getD i 0)))
theorem U16H.below {w w' : World} {A : Option Addr} {n : Nat} {zs : List Int} (h : U16H w A n zs) (hb : Below w.heap.size w w') : U16H w' A n zs :=
  ⟨h.1, fun hn => by
    obtain ⟨b, off, e, hl, hc⟩ := h.2 hn
    exact ⟨b, off, e, Nat.lt_of_lt_of_le hl hb.size, fun i hi => (hb.cell (p := ⟨b, off + i, none⟩) hl).trans (hc i hi)⟩⟩

/-- The call returns a set of at most 60 spans. -/
def RetSet (w : World) (e : Ending) (w' : World) : Prop := ∃ v l, e = .returned v ∧ IsSet l ∧ l.length ≤ 60 ∧ OwnSp w' w.heap.size v l ∧ Below w.heap.size w w'

theorem set_more {R : List Sp} {T x y : Int} (h : IsSet R) (hT : ∀ r ∈ R, r.2 ≤ T) (h1 : T < x) (h0 : 0 ≤ x) (h2 : x < y) (h3 : y ≤ 65536) : IsSet (R ++ [(x, y)]) ∧ ∀ r ∈ R ++ [(x, y)], r.2 ≤ y :=
  ⟨SetFrom.snoc.2 ⟨h, fun r hr => by have := hT r hr; show r.2 < x; omega, h0, h2, h3⟩, fun r hr => by
    rcases List.mem_append.1 hr with hr | hr
    · have := hT r hr; omega
    · obtain rfl := List.mem_singleton.1 hr; exact Int.le_refl _⟩

set_option maxRecDepth 100000 in
set_option maxHeartbeats 2000000 in
theorem built_any (zs : List Int) (A : Option Addr) (n c : Nat) (w : World) (hm : n ≤ 4611686018427387904) (hA : U16H w A n zs) :
    Calls Try.prog 15 #[.slice A n c] w (RetSet w) := by
  obtain ⟨i0, hi, hz0, hz1, hz2⟩ := info_parts info_sp
  have HI := hid hi
  have HZ := hid hz0
  have HZ1 := hid hz1
  have HZ2 := hid hz2
  have HA := hid hA
  clear hi hz0 hz1 hz2 hA
  go_enter Try.func15, Try.ntmps15
  go_wp2
  go_loopw [3, 4, 5] (fun v t i wr => ∃ (k : Nat) (R : List Sp) (T : Int), k ≤ 60 ∧ R.length = k ∧ i = .int .i64 ((2 * k : Nat) : Int) ∧ t = .int .i64 T ∧ -1 ≤ T ∧ T ≤ 65536 ∧ Hid (IsSet R ∧ ∀ r ∈ R, r.2 ≤ T) ∧ OwnSp wr w.heap.size v R ∧ Below w.heap.size w wr) (fun _ _ i _ => 200 - (intOf i).toNat)
  case atStart => exact ⟨0, [], -1, by omega, rfl, rfl, rfl, by omega, by omega, ⟨isSet_nil, fun r hr => by cases hr⟩, ownSp_nil _ _, Below.refl _ _⟩
  case round =>
    obtain ⟨k, R, T, hk, hR, rfl, rfl, hT0, hT1, HS, ho, hb⟩ := hrel
    obtain ⟨A3, c3, rfl, _, _, _⟩ := ho.view
    have HO := hid ho
    have HB := hid hb
    have HR := hid hR
    rw [hR] at HO
    rw [hR]
    clear ho hR
    by_cases hlt : 2 * k + 1 < n
    · by_cases h60 : k < 60
      · obtain ⟨b, off, rfl, hbl, hc⟩ := HA.out.2 (by omega)
        obtain ⟨x, hx⟩ : ∃ x, zs.getD (2 * k) 0 = x := ⟨_, rfl⟩
        obtain ⟨y, hy⟩ : ∃ y, zs.getD (2 * k + 1) 0 = y := ⟨_, rfl⟩
        have c0 := (hb.cell (p := ⟨b, off + 2 * k, none⟩) hbl).trans (hc (2 * k) (by omega))
        have c1 := (hb.cell (p := ⟨b, off + (2 * k + 1), none⟩) hbl).trans (hc (2 * k + 1) (by omega))
        have bx := HA.out.1 (2 * k)
        have bY := HA.out.1 (2 * k + 1)
        rw [hx] at c0 bx
        rw [hy] at c1 bY
        obtain ⟨x0, x1⟩ := bx
        obtain ⟨y0, y1⟩ := bY
        have hlt' : 2 * (k : Int) + 1 < (n : Int) := by omega
        clear hx hy hb hc
        have h120 : 2 * (k : Int) < 120 := by omega
        by_cases hE : T + 1 + x % 3000 + 1 + y % 3000 ≤ 65536
        · have HN := hid (set_more HS.out.1 HS.out.2 (x := T + 1 + x % 3000) (y := T + 1 + x % 3000 + 1 + y % 3000) (by omega) (by omega) (by omega) hE)
          go_wp2_with fail
          refine (to_any _ _ _).mono ?_
          rintro e w1 ⟨rfl, h1⟩
          have HO1 := hid (OwnSp.below HO.out h1)
          have HB1 := hid (HB.out.trans (h1.mono HB.out.size))
          have HO2 : Hid (w1.ownsRow w.heap.size 34 2 (.slice A3 k c3) k (cellsOf R)) := by have := HO1.out; unfold OwnSp at this; rw [HR.out] at this; exact this
          clear h1 HO HO1
          go_wp2_with (at_builtin; refine wpList_append_own _ rfl _ _ 22 rfl w.heap.size 34 i0 (.agg #[.int .i64 0, .int .i64 0]) 2 16 Try.underlying22 HI.out HZ.out HZ1.out HZ2.out rfl (by decide) _ _ _ rfl (HO2.out.alloc _) ⟨w1.heap.size, 0, none⟩ 1 1 [.int .i64 (T + 1 + x % 3000), .int .i64 (T + 1 + x % 3000 + 1 + y % 3000)] rfl rfl (cell_two_new rfl _ _ _) (by simp [Value.oneCell']) (by unfold maxLen; omega) (by omega) (by have := HB1.out.size; simp; omega) ?_; intro v' w2 hown1 hgrow1 _)
          have HO3 : Hid (OwnSp w2 w.heap.size v' (R ++ [(T + 1 + x % 3000, T + 1 + x % 3000 + 1 + y % 3000)])) := by
            show w2.ownsRow _ _ _ _ _ _
            rw [cells_append, List.length_append, HR.out]
            exact hown1
          have HB2 : Hid (Below w.heap.size w w2) := (HB1.out.alloc HB1.out.size _).grown hgrow1 (by have := HB1.out.size; simp; omega) (fun g e => (World.ownsRow.lt HO2.out g e).1)
          clear hown1 hgrow1
          go_wp2
          go_roundw
          case rel => exact ⟨k + 1, _, _, by omega, by rw [List.length_append, HR.out]; rfl, by go_num, rfl, by omega, by omega, HN.out, HO3.out, HB2.out⟩
          case measure => simp [intOf]; omega
        · go_wp2
          go_ret
          exact ⟨_, R, rfl, HS.out.1, by rw [HR.out]; exact hk, HO.out, HB.out⟩
      · obtain rfl : k = 60 := by omega
        have hlt' : 2 * (60 : Int) + 1 < (n : Int) := by omega
        go_wp2
        go_ret
        exact ⟨_, R, rfl, HS.out.1, by rw [HR.out]; exact hk, HO.out, HB.out⟩
    · have hlt' : ¬ 2 * (k : Int) + 1 < (n : Int) := by omega
      go_wp2
      go_ret
      exact ⟨_, R, rfl, HS.out.1, by rw [HR.out]; exact hk, HO.out, HB.out⟩

set_option maxRecDepth 100000 in
set_option maxHeartbeats 2000000 in
theorem in_any (l : List Sp) (A : Option Addr) (n c : Nat) (d : Int) (w : World) (hn : Hid (l.length = n)) (hm : n ≤ 4611686018427387904) (hA : SpH w A l) :
    Calls Try.prog 20 #[.slice A n c, .int .i64 d] w fun e w' => e = .returned (.bool (memB l d)) ∧ w' = w := by
  go_enter Try.func20, Try.ntmps20
  go_wp2
  go_loop [5] (fun i => ∃ k : Nat, k ≤ n ∧ i = .int .i64 k ∧ Hid (∀ j, j < k → ¬ (fr l j ≤ d ∧ d < tt l j))) (fun i => n - (intOf i).toNat)
  case atStart => exact ⟨0, by omega, rfl, fun j hj => absurd hj (by omega)⟩
  case round =>
    obtain ⟨k, hk, rfl, HG⟩ := hrel
    by_cases hlt : k < n
    · obtain ⟨b, off, rfl, hbl, hc⟩ := hA.at_ hn.out (by omega)
      obtain ⟨x, hx⟩ : ∃ x, fr l k = x := ⟨_, rfl⟩
      obtain ⟨y, hy⟩ : ∃ y, tt l k = y := ⟨_, rfl⟩
      have c0 := (hc k hlt).1
      have c1 := (hc k hlt).2
      rw [hx] at c0
      rw [hy] at c1
      have HX := hid hx
      have HY := hid hy
      clear hx hy hc hA
      by_cases h1 : x ≤ d
      · by_cases h2 : d < y
        · have HM : Hid (memB l d = true) := memB_at.2 ⟨k, by have := hn.out; omega, by rw [HX.out]; exact h1, by rw [HY.out]; exact h2⟩
          go_wp2
          go_ret
          exact ⟨by rw [HM.out]; rfl, rfl⟩
        · have HGS : Hid (∀ j, j < k + 1 → ¬ (fr l j ≤ d ∧ d < tt l j)) := fun j hj => by
            by_cases g : j = k
            · subst g; rw [HX.out, HY.out]; omega
            · exact HG.out j (by omega)
          go_wp2
          go_round
          case rel => exact ⟨k + 1, by omega, by go_num, HGS⟩
          case measure => simp [intOf]; omega
      · have HGS : Hid (∀ j, j < k + 1 → ¬ (fr l j ≤ d ∧ d < tt l j)) := fun j hj => by
          by_cases g : j = k
          · subst g; rw [HX.out, HY.out]; omega
          · exact HG.out j (by omega)
        go_wp2
        go_round
        case rel => exact ⟨k + 1, by omega, by go_num, HGS⟩
        case measure => simp [intOf]; omega
    · have HM : Hid (memB l d = false) := by
        show _ = _
        rw [Bool.eq_false_iff]
        intro hm
        obtain ⟨j, hj, h1, h2⟩ := memB_at.1 hm
        exact HG.out j (by have := hn.out; omega) ⟨h1, h2⟩
      go_wp2
      go_ret
      exact ⟨by rw [HM.out]; rfl, rfl⟩
end Go.Proofs.Ytpafnakepgjmnaa
