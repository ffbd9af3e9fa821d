/- Add and Sub. Conditions: both numbers are in memory. -/
import Derived.Test.YtgnidjhfiagfnaaWl
namespace Go.Proofs.Ytgnidjhfiagfnaa
open Go.RowKit

theorem valid_norm {x : Bool} {l : List Nat} (hl : Limbs l) (h : validB x l = true) : Norm l ∧ l.length ≤ 1024 ∧ (x = true → val l ≠ 0) := by
  unfold validB at h
  by_cases h0 : l.length = 0
  · rw [if_pos h0] at h
    have : l = [] := List.eq_nil_of_length_eq_zero h0
    subst this
    exact ⟨norm_nil, by simp, by intro hx; subst hx; simp at h⟩
  · rw [if_neg h0] at h
    have h1 := of_decide_eq_true h
    have hn : Norm l := norm_of_last hl (.inr h1.2)
    refine ⟨hn, h1.1, fun _ e => h1.2 ?_⟩
    have := hn.2
    rw [e, digs_zero] at this
    rw [← this] at h0
    simp at h0

theorem neg_zv (y : Bool) (l : List Nat) (hl : Norm l) : zv (!y && decide (0 < l.length)) l = -(zv y l) := by
  by_cases h : 0 < l.length
  · cases y <;> simp [zv, h]
  · have : l = [] := List.eq_nil_of_length_eq_zero (by omega)
    subst this
    cases y <;> simp [zv, val]

set_option maxRecDepth 100000 in
set_option maxHeartbeats 2000000 in
theorem difference_any (x y : Bool) (la lb : List Nat) (A B : Option Addr) (na nb ca cb : Nat) (w : World) (hsa : Sl w (.slice A na ca) la) (hsb : Sl w (.slice B nb cb) lb) (hna : Hid (la.length = na)) (hnb : Hid (lb.length = nb)) (ha : la.length ≤ 4000) (hb : lb.length ≤ 4000) (na' : Norm la) (nb' : Norm lb) :
    Calls Try.prog 40 #[.agg #[.bool x, .slice A na ca], .agg #[.bool y, .slice B nb cb]] w fun e w' => ∃ v, e = .returned v ∧ WhZ w' v (zv x la - zv y lb) ∧ Below w.heap.size w w' := by
  go_enter Try.func40, Try.ntmps40
  go_wp2
  obtain ⟨W0, hW0⟩ : ∃ W0, ((w.alloc (.cells #[.bool x, .slice A na ca] 26)).alloc (.cells #[.bool y, .slice B nb cb] 26)).alloc (.cells #[.bool false, .slice none 0 0] 26) = W0 := ⟨_, rfl⟩
  have b0 : Blk W0 w.heap.size 26 #[.bool x, .slice A na ca] := by rw [← hW0]; exact ((Blk.new w _ _).alloc _).alloc _
  have b1 : Blk W0 (w.heap.size + 1) 26 #[.bool y, .slice B nb cb] := by
    rw [← hW0]
    have := (Blk.new (w.alloc (.cells #[.bool x, .slice A na ca] 26)) 26 #[.bool y, .slice B nb cb]).alloc (.cells #[.bool false, .slice none 0 0] 26)
    rwa [World.size_alloc] at this
  have b2 : Blk W0 (w.heap.size + 2) 26 #[.bool false, .slice none 0 0] := by
    rw [← hW0]
    have := (Blk.new ((w.alloc (.cells #[.bool x, .slice A na ca] 26)).alloc (.cells #[.bool y, .slice B nb cb] 26)) 26 #[.bool false, .slice none 0 0])
    rwa [World.size_alloc, World.size_alloc] at this
  have bw : Below w.heap.size w W0 := by rw [← hW0]; exact (by repeat (first | exact Below.refl _ _ | assumption | refine Below.alloc ?_ (by first | (simp; done) | (simp; omega) | omega) _ | refine Below.setCell ?_ (by first | (simp; done) | (simp; omega) | omega) _ | refine Below.drew ?_))
  rw [hW0]
  clear hW0
  have c1 : W0.cell? ⟨w.heap.size, 0, none⟩ = some (.bool x) := (b0.cell 0).trans rfl
  have c2 : W0.cell? ⟨w.heap.size, 1, none⟩ = some (.slice A na ca) := (b0.cell 1).trans rfl
  have c3 : W0.cell? ⟨w.heap.size + 1, 0, none⟩ = some (.bool y) := (b1.cell 0).trans rfl
  have c4 : W0.cell? ⟨w.heap.size + 1, 1, none⟩ = some (.slice B nb cb) := (b1.cell 1).trans rfl
  have l0 := b0.lt
  have l1 := b1.lt
  have l2 := b2.lt
  have HSm : Hid (∀ w1, Below W0.heap.size W0 w1 → Calls Try.prog 39 #[.agg #[.bool x, .slice A na ca], .agg #[.bool (!y && decide (0 < nb)), .slice B nb cb]] w1 fun e w' => ∃ v, e = .returned v ∧ WhZ w' v (zv x la - zv y lb) ∧ Below w1.heap.size w1 w') := by
    intro w1 hb1
    have h1 : Wh w1 (.agg #[.bool x, .slice A na ca]) x la := ⟨A, ca, by rw [hna.out], by rw [hna.out]; exact (hsa.below bw).below hb1⟩
    have h2 : Wh w1 (.agg #[.bool (!y && decide (0 < nb)), .slice B nb cb]) (!y && decide (0 < nb)) lb := ⟨B, cb, by rw [hnb.out], by rw [hnb.out]; exact (hsb.below bw).below hb1⟩
    have := sum_wh h1 h2 ha hb na' nb'
    rw [← hnb.out, neg_zv y lb nb'] at this
    rwa [← hnb.out]
  clear hsa hsb
  go_region_held3 (fun w' => w'.cell? ⟨w.heap.size, 0, none⟩ = some (.bool x) ∧ w'.cell? ⟨w.heap.size, 1, none⟩ = some (.slice A na ca) ∧ w'.cell? ⟨w.heap.size + 1, 0, none⟩ = some (.bool y) ∧ w'.cell? ⟨w.heap.size + 1, 1, none⟩ = some (.slice B nb cb))
    (first | exact ⟨c1, c2, c3, c4⟩ | exact ⟨k1, k2, k3, k4⟩ | exact ⟨m1, m2, m3, m4⟩ | (refine ⟨?_, ?_, ?_, ?_⟩ <;> (simp [go_sem, m1, m2, m3, m4]; done)))
    (first | (go_at_call 54; refine (signed_any _ _ _ _ _).mono ?_; rintro e w1 ⟨rfl, hbx⟩; have hb1 := below_of_drew hbx; clear hbx; have k1 := (hb1.cell (p := ⟨w.heap.size, 0, none⟩) l0).trans c1; have k2 := (hb1.cell (p := ⟨w.heap.size, 1, none⟩) l0).trans c2; have k3 := (hb1.cell (p := ⟨w.heap.size + 1, 0, none⟩) l1).trans c3; have k4 := (hb1.cell (p := ⟨w.heap.size + 1, 1, none⟩) l1).trans c4) | (go_at_call 39; refine (HSm.out _ hb1).mono ?_; rintro e w2 ⟨v, rfl, hz, hb2⟩; obtain ⟨n', A', c', Hn', rfl, hs⟩ := whz_len hz; have m1 := (hb2.cell (p := ⟨w.heap.size, 0, none⟩) (Nat.lt_of_lt_of_le l0 hb1.size)).trans k1; have m2 := (hb2.cell (p := ⟨w.heap.size, 1, none⟩) (Nat.lt_of_lt_of_le l0 hb1.size)).trans k2; have m3 := (hb2.cell (p := ⟨w.heap.size + 1, 0, none⟩) (Nat.lt_of_lt_of_le l1 hb1.size)).trans k3; have m4 := (hb2.cell (p := ⟨w.heap.size + 1, 1, none⟩) (Nat.lt_of_lt_of_le l1 hb1.size)).trans k4; have d2 := (b2.below hb1 l2).below hb2 (Nat.lt_of_lt_of_le l2 hb1.size); have g4 := (d2.cell 0).trans (b := some (Value.bool false)) rfl; have g5 := (d2.cell 1).trans (b := some (Value.slice none 0 0)) rfl; have h4 := d2.frozen 0; have h5 := d2.frozen 1; have l4 := d2.lt))
  go_wp2
  have d4 := (d2.set_ 0 (.bool (decide (zv x la - zv y lb < 0)))).set_ 1 (.slice A' n' c')
  have r0 := (d4.cell 0).trans (b := some (Value.bool (decide (zv x la - zv y lb < 0)))) rfl
  have r1 := (d4.cell 1).trans (b := some (Value.slice A' n' c')) rfl
  have s5 := hs.store2 d2 (decide (zv x la - zv y lb < 0)) A' n' c'
  exact bodyPost_ret (v := .agg #[.bool (decide (zv x la - zv y lb < 0)), .slice A' n' c']) (by simp [results, Try.f40, go_sem, r0, r1]) rfl
    ⟨_, rfl, ⟨A', c', by rw [Hn'.out], by rw [Hn'.out]; exact s5⟩, ((bw.trans (hb1.mono bw.size)).trans (hb2.mono (Nat.le_trans bw.size hb1.size))).setCell (p := ⟨w.heap.size + 2, 0, none⟩) (by simp) _ |>.setCell (p := ⟨w.heap.size + 2, 1, none⟩) (by simp) _⟩

theorem op_sum {x y : Bool} {la lb : List Nat} (ha : la.length ≤ 4000) (hb : lb.length ≤ 4000) (hna : Norm la) (hnb : Norm lb) : OpZ 39 x la y lb (zv x la + zv y lb) :=
  fun _ _ _ hA hB => sum_wh hA hB ha hb hna hnb
theorem op_difference {x y : Bool} {la lb : List Nat} (ha : la.length ≤ 4000) (hb : lb.length ≤ 4000) (hna : Norm la) (hnb : Norm lb) : OpZ 40 x la y lb (zv x la - zv y lb) := by
  rintro W va vb ⟨A, ca, rfl, sa⟩ ⟨B, cb, rfl, sb⟩
  exact difference_any x y la lb A B _ _ ca cb W sa sb rfl rfl ha hb hna hnb

/-- The error of a checked operation with the exact result z. -/
def code (ok : Bool) (z : Int) : Int := if ok then (if (digs z.natAbs).length ≤ 1024 then 0 else 3) else 2
/-- The number that it hands back. -/
def resz (ok : Bool) (z : Int) : Int := if ok then (if (digs z.natAbs).length ≤ 1024 then z else 0) else 0

theorem whz_zero (w : World) : WhZ w (.agg #[.bool false, .slice none 0 0]) 0 := by
  have : digs (Int.natAbs 0) = [] := digs_zero
  unfold WhZ
  rw [this]
  exact ⟨none, 0, rfl, Sl.nil w⟩

theorem join_any {f M : Nat} {x y : Bool} {la lb : List Nat} {A B : Option Addr} {na ca nb cb : Nat} {z : Int} {w : World} (hf : ∀ args w, (callFunc f args).run Try.prog w = .ok (.enter f args) w) (hop : validB x la = true → validB y lb = true → OpZ f x la y lb z)
    (hsa : Sl w (.slice A na ca) la) (hna : Hid (la.length = na)) (hsb : Sl w (.slice B nb cb) lb) (hnb : Hid (lb.length = nb)) (hM : Blk w M 26 #[.bool y, .slice B nb cb]) :
    Calls Try.prog 38 #[.func (.func f) #[] #[], .agg #[.bool x, .slice A na ca], .slice (some ⟨M, 0, none⟩) 1 1] w fun e w' => ∃ v, e = .returned (.tuple #[v, .int .i64 (code (validB x la && validB y lb) z)]) ∧ WhZ w' v (resz (validB x la && validB y lb) z) ∧ Below w.heap.size w w' := by
  cases hx : validB x la with
  | false =>
    refine (join_bad f M x y la lb A B na ca nb cb w hsa hna hsb hnb hM (.inl hx)).mono ?_
    rintro e w' ⟨rfl, hb⟩
    exact ⟨_, rfl, whz_zero _, hb⟩
  | true =>
    cases hy : validB y lb with
    | false =>
      refine (join_bad f M x y la lb A B na ca nb cb w hsa hna hsb hnb hM (.inr hy)).mono ?_
      rintro e w' ⟨rfl, hb⟩
      exact ⟨_, rfl, whz_zero _, hb⟩
    | true =>
      unfold code resz
      by_cases hl : (digs z.natAbs).length ≤ 1024
      · refine (join_ok f M x y la lb A B na ca nb cb z w hf (hop hx hy) hl hsa hna hsb hnb hM hx hy).mono ?_
        rintro e w' ⟨v, rfl, hz, hb⟩
        simp only [Bool.and_self, if_true, if_pos hl]
        exact ⟨_, rfl, hz, hb⟩
      · refine (join_long f M x y la lb A B na ca nb cb z w hf (hop hx hy) (by omega) hsa hna hsb hnb hM hx hy).mono ?_
        rintro e w' ⟨rfl, hb⟩
        simp only [Bool.and_self, if_true, if_neg hl]
        exact ⟨_, rfl, whz_zero _, hb⟩
end Go.Proofs.Ytgnidjhfiagfnaa
