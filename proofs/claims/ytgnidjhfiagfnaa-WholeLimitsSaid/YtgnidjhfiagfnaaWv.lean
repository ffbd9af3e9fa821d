/- Division of absolute values where the divisor is greater or has one limb. Conditions: normal forms in memory. -/
import Derived.Test.YtgnidjhfiagfnaaWu
namespace Go.Proofs.Ytgnidjhfiagfnaa
open Go.RowKit

theorem cmpL_lt {la lb : List Nat} (ha : Norm la) (hb : Norm lb) (h : val la < val lb) : cmpL la lb < 0 := by
  rw [cmpL_eq ha hb]; unfold cmpN; rw [if_neg (by omega), if_pos h]; omega
theorem cmpL_ge {la lb : List Nat} (ha : Norm la) (hb : Norm lb) (h : val lb ≤ val la) : ¬ cmpL la lb < 0 := by
  rw [cmpL_eq ha hb]; unfold cmpN; split <;> (try split) <;> omega

set_option maxRecDepth 100000 in
set_option maxHeartbeats 400000 in
theorem divide_lt (la lb : List Nat) (A B : Option Addr) (na nb ca cb : Nat) (w : World) (hsa : Sl w (.slice A na ca) la) (hsb : Sl w (.slice B nb cb) lb) (ha : Norm la) (hb : Norm lb) (hla : la.length ≤ 4000) (hlb : lb.length ≤ 4000) (hlt : val la < val lb) :
    Calls Try.prog 58 #[.slice A na ca, .slice B nb cb] w fun e w' => ∃ r, e = .returned (.tuple #[.slice none 0 0, r]) ∧ Sl w' r la ∧ Below w.heap.size w w' := by
  obtain ⟨W0, hW0⟩ : ∃ W0, w.alloc (.cells #[.slice none 0 0] 24) = W0 := ⟨_, rfl⟩
  have b0 : Blk W0 w.heap.size 24 #[.slice none 0 0] := by rw [← hW0]; exact Blk.new w _ _
  have bw : Below w.heap.size w W0 := by rw [← hW0]; exact (by repeat (first | exact Below.refl _ _ | assumption | refine Below.alloc ?_ (by first | (simp; done) | (simp; omega) | omega) _ | refine Below.setCell ?_ (by first | (simp; done) | (simp; omega) | omega) _ | refine Below.drew ?_))
  have HW : Hid (w.alloc (.cells #[.slice none 0 0] 24) = W0) := hW0
  clear hW0
  have s0 := hsa.below bw
  have t0 := hsb.below bw
  have hcl := cmpL_lt ha hb hlt
  have HC : Hid (Calls Try.prog 62 #[.slice A na ca, .slice B nb cb] W0 fun e w' => e = .returned (.int .i64 (cmpL la lb)) ∧ Below W0.heap.size W0 w') := compare_sl s0 t0 (by omega) (by omega)
  have l0 := b0.lt
  clear hsa hsb
  go_enter Try.func58, Try.ntmps58
  go_wp2_with (first | (rw [HW.out]; go_at_call 62; refine HC.out.mono ?_; clear HC; rintro e w1 ⟨rfl, hb1⟩) | (go_at_call 71; refine (clone_sl (s0.below hb1)).mono ?_; rintro e w2 ⟨A', c', rfl, hown, hb2⟩; have d0 := (b0.below hb1 l0).below hb2 (Nat.lt_of_lt_of_le l0 hb1.size); have g4 := (d0.cell 0).trans (b := some (Value.slice none 0 0)) rfl; have h4 := d0.frozen 0; have l4 := d0.lt))
  have d1 := d0.set_ 0 (.slice none 0 0)
  have r0 := (d1.cell 0).trans (b := some (Value.slice none 0 0)) rfl
  have hs := sl_own ha.1 (by omega) hown
  have hs2 := hs.setCell ⟨w.heap.size, 0, none⟩ (.slice none 0 0) (fun x e => by rw [g4] at e; cases e)
  exact bodyPost_ret (v := .tuple #[.slice none 0 0, .slice A' la.length c']) (by simp [results, Try.f58, go_sem, r0]) rfl ⟨_, rfl, hs2, ((bw.trans (hb1.mono bw.size)).trans (hb2.mono (Nat.le_trans bw.size hb1.size))).setCell (p := ⟨w.heap.size, 0, none⟩) (Nat.le_refl _) _⟩

theorem short_final {L Q : List Nat} {d r : Nat} (h : Short L d 0 Q r) : val Q = val L / d ∧ r = val L % d := by
  have h1 := h.eq
  rw [List.drop_zero] at h1
  have hr := h.rest
  have hd : 0 < d := by omega
  have e1 : val L / d = val Q := by
    rw [h1, Nat.mul_comm, Nat.mul_add_div hd, Nat.div_eq_of_lt hr, Nat.add_zero]
  have e2 : val L % d = r := by
    rw [h1, Nat.mul_comm, Nat.mul_add_mod, Nat.mod_eq_of_lt hr]
  exact ⟨e1.symm, e2.symm⟩

theorem own_addr {w : World} {base e size n c : Nat} {A : Option Addr} {xs : List Value} (h : w.ownsRow base e size (.slice A n c) n xs) (hn : 0 < n) : ∃ g, A = some ⟨g, 0, none⟩ ∧ base ≤ g ∧ g < w.heap.size := by
  rcases h.2 with ⟨_, h0⟩ | ⟨g, cap, cur, h1, h2, h3, _⟩
  · omega
  · injection h1 with a
    exact ⟨g, a, h2, (Array.getElem?_eq_some_iff.1 h3).1⟩
theorem grown_of_drew {w w' : World} {row : Option Nat} (h : w.drew.grownBy w' row) : w.grownBy w' row := ⟨h.os, h.tape, h.output, h.size, h.block⟩

set_option maxRecDepth 100000 in
set_option maxHeartbeats 2000000 in
theorem divide_one (la lb : List Nat) (A : Option Addr) (na ca bB oB cb : Nat) (w : World) (hsa : Sl w (.slice A na ca) la) (hsb : Sl w (.slice (some ⟨bB, oB, none⟩) 1 cb) lb) (hna : Hid (la.length = na)) (hnb : Hid (lb.length = 1)) (ha : Norm la) (hb : Norm lb) (hla : la.length ≤ 4000) (hle : val lb ≤ val la) (hla0 : 0 < na)
    (xB : w.cell? ⟨bB, oB, none⟩ = some (.int .u16 (nth lb 0))) (hbl : bB < w.heap.size) (hlim : 0 < nth lb 0 ∧ nth lb 0 < 65536) (hval : Hid (val lb = nth lb 0)) :
    Calls Try.prog 58 #[.slice A na ca, .slice (some ⟨bB, oB, none⟩) 1 cb] w fun e w' => ∃ q r, e = .returned (.tuple #[q, r]) ∧ Sl w' q (digs (val la / val lb)) ∧ Sl w' r (digs (val la % val lb)) ∧ Below w.heap.size w w' := by
  obtain ⟨W0, hW0⟩ : ∃ W0, w.alloc (.cells #[.slice none 0 0] 24) = W0 := ⟨_, rfl⟩
  have b0 : Blk W0 w.heap.size 24 #[.slice none 0 0] := by rw [← hW0]; exact Blk.new w _ _
  have bw : Below w.heap.size w W0 := by rw [← hW0]; exact (by repeat (first | exact Below.refl _ _ | assumption | refine Below.alloc ?_ (by first | (simp; done) | (simp; omega) | omega) _ | refine Below.setCell ?_ (by first | (simp; done) | (simp; omega) | omega) _ | refine Below.drew ?_))
  have HW : Hid (w.alloc (.cells #[.slice none 0 0] 24) = W0) := hW0
  clear hW0
  have s0 := hsa.below bw
  have t0 := hsb.below bw
  have hcl := cmpL_ge ha hb hle
  have HC : Hid (Calls Try.prog 62 #[.slice A na ca, .slice (some ⟨bB, oB, none⟩) 1 cb] W0 fun e w' => e = .returned (.int .i64 (cmpL la lb)) ∧ Below W0.heap.size W0 w') := compare_sl s0 t0 (by omega) (by rw [hnb.out]; omega)
  have HN : Hid (∀ w1, Below W0.heap.size W0 w1 → Calls Try.prog 71 #[.slice A na ca] w1 fun e w' => ∃ A' c', e = .returned (.slice A' na c') ∧ w'.ownsRow w1.heap.size 22 1 (.slice A' na c') na (vals la) ∧ Below w1.heap.size w1 w') := fun w1 h => by
    have := clone_sl (s0.below h)
    rwa [hna.out] at this
  have l0 := b0.lt
  have xW := (bw.cell (p := ⟨bB, oB, none⟩) hbl).trans xB
  clear hsa hsb xB
  go_enter Try.func58, Try.ntmps58
  go_wp2_with (first | (rw [HW.out]; go_at_call 62; refine HC.out.mono ?_; clear HC; rintro e w1 ⟨rfl, hb1⟩) | (go_at_call 71; refine (HN.out _ hb1).mono ?_; clear HN; rintro e w2 ⟨A', c', rfl, hown, hb2⟩; obtain ⟨g, rfl, hg1, hg2⟩ := own_addr hown hla0; have d0 := (b0.below hb1 l0).below hb2 (Nat.lt_of_lt_of_le l0 hb1.size); have g4 := (d0.cell 0).trans (b := some (Value.slice none 0 0)) rfl; have h4 := d0.frozen 0; have l4 := d0.lt))
  have x2 := (hb2.cell (p := ⟨bB, oB, none⟩) (Nat.lt_of_lt_of_le (Nat.lt_of_lt_of_le hbl bw.size) hb1.size)).trans ((hb1.cell (p := ⟨bB, oB, none⟩) (Nat.lt_of_lt_of_le hbl bw.size)).trans xW)
  have B1 := Nat.le_trans bw.size hb1.size
  have bz := (bw.trans (hb1.mono bw.size)).trans (hb2.mono B1)
  have own1 := ownsRow_setCell_other hown (a := ⟨w.heap.size, 0, none⟩) (own_blk_ne hown d0 (by decide)) (.slice (some ⟨g, 0, none⟩) na c')
  have d1 := d0.set_ 0 (.slice (some ⟨g, 0, none⟩) na c')
  have bz1 := bz.setCell (p := ⟨w.heap.size, 0, none⟩) (Nat.le_refl _) (.slice (some ⟨g, 0, none⟩) na c')
  have x3 : (w2.setCell ⟨w.heap.size, 0, none⟩ (.slice (some ⟨g, 0, none⟩) na c')).cell? ⟨bB, oB, none⟩ = some (.int .u16 (nth lb 0)) := by
    rw [World.cell?_setCell_other]
    · exact x2
    · intro e; injection e with e1; omega
  obtain ⟨WC, hWC⟩ : ∃ WC, w2.setCell ⟨w.heap.size, 0, none⟩ (.slice (some ⟨g, 0, none⟩) na c') = WC := ⟨_, rfl⟩
  have hgs : g < WC.heap.size := by rw [← hWC]; simp [World.setCell]; exact hg2
  rw [hWC] at own1 d1 bz1 x3 ⊢
  have ng : w.heap.size < g := by have := hb1.size; omega
  have nb' : bB < g := by omega
  clear hWC hown g4 h4 d0 bz hb2 hb1 b0 x2 l4
  have y1 := (d1.cell 0).trans (b := some (Value.slice (some ⟨g, 0, none⟩) na c')) rfl
  have HD : Hid (Calls Try.prog 72 #[.slice (some ⟨g, 0, none⟩) na c', .int .i64 (IntKind.i64.wrap (nth lb 0))] WC.drew fun e w' => ∃ (Q : List Nat) (r : Nat), e = .returned (.int .i64 r) ∧ Short la (nth lb 0) 0 Q r ∧ w'.ownsRow w1.heap.size 22 1 (.slice (some ⟨g, 0, none⟩) na c') na (vals Q) ∧ WC.grownBy w' (some g)) := by
    have hwr : IntKind.i64.wrap (nth lb 0 : Int) = (nth lb 0 : Int) := by rw [IntKind.wrap_i64]; omega
    show Calls _ _ _ _ _
    rw [hwr]
    refine (divideShort_any w1.heap.size g na c' (nth lb 0) la WC.drew hna ha.1 (by have := hna.out; omega) hlim.1 (by omega) own1 hgs).mono ?_
    rintro e w' ⟨Q, r, h1, h2, h3, h4⟩
    exact ⟨Q, r, h1, h2, h3, grown_of_drew h4⟩
  have ng1 : some (⟨w.heap.size, 0, none⟩ : Addr).block ≠ some g := fun e => by injection e with e1; simp at e1; omega
  have ng2 : some (⟨bB, oB, none⟩ : Addr).block ≠ some g := fun e => by injection e with e1; simp at e1; omega
  go_region_held3 (fun w' => w'.cell? ⟨w.heap.size, 0, none⟩ = some (.slice (some ⟨g, 0, none⟩) na c') ∧ w'.cell? ⟨bB, oB, none⟩ = some (.int .u16 (nth lb 0)))
    (first | (with_reducible exact ⟨cell_drew y1, cell_drew x3⟩) | (with_reducible exact ⟨ka, kb⟩))
    (first | (go_at_call 72; refine HD.out.mono ?_; rintro e w3 ⟨Q, r, rfl, HSh, own3, hgr⟩; have ka := hgr.cell y1 ng1; have kb := hgr.cell x3 ng2))
  have hQ : Hid (Q.length = na) := by have := HSh.len; rw [Nat.add_zero, hna.out] at this; exact this
  have sQ : Sl w3 (.slice (some ⟨g, 0, none⟩) na c') Q := by
    rw [← hQ.out] at own3 ⊢
    exact sl_own HSh.limbs (by have := hna.out; have := hQ.out; omega) own3
  have hf := short_final HSh
  have HF : Hid (val Q = val la / nth lb 0 ∧ r = val la % nth lb 0) := hf
  have hr := HSh.rest
  have d3 := d1.grown hgr (fun e => by injection e with e1; omega)
  have bz3 := bz1.grown hgr bz1.size (fun k e => by injection e with e1; omega)
  clear hf HSh own3 hgr HD y1 own1 d1 bz1 x3
  go_wp2_with (first | (go_at_call 73; refine (trim_sl sQ).mono ?_; rintro e w4 ⟨v4, rfl, hs4, rfl⟩; obtain ⟨n4, A4, c4, Hn4, rfl, hs4⟩ := sl_len hs4) | (go_at_call 60; refine (limbsOf_any _ _ (by omega) (by omega)).mono ?_; rintro e w5 ⟨v5, rfl, hs5, hb5⟩; obtain ⟨n5, A5, c5, Hn5, rfl, hs5⟩ := sl_len hs5; have d5 := d3.below hb5 d3.lt; have y5 := (d5.cell 0).trans (b := some (Value.slice (some ⟨g, 0, none⟩) na c')) rfl; have f5 := d5.frozen 0; have l5 := d5.lt))
  have d6 := d5.set_ 0 (.slice A4 n4 c4)
  have r0 := (d6.cell 0).trans (b := some (Value.slice A4 n4 c4)) rfl
  have qf := (hs4.below hb5).setCell ⟨w.heap.size, 0, none⟩ (.slice A4 n4 c4) (fun x e => by rw [y5] at e; cases e)
  have rf := hs5.setCell ⟨w.heap.size, 0, none⟩ (.slice A4 n4 c4) (fun x e => by rw [y5] at e; cases e)
  rw [HF.out.1, ← hval.out] at qf
  rw [Int.toNat_natCast, HF.out.2, ← hval.out] at rf
  exact bodyPost_ret (v := .tuple #[.slice A4 n4 c4, .slice A5 n5 c5]) (by simp [results, Try.f58, go_sem, r0]) rfl ⟨_, _, rfl, qf, rf, (bz3.trans (hb5.mono bz3.size)).setCell (p := ⟨w.heap.size, 0, none⟩) (Nat.le_refl _) _⟩

/-- Division where the divisor has one limb, or is greater. -/
theorem divc_small {la lb : List Nat} (ha : Norm la) (hb : Norm lb) (hla : la.length ≤ 4000) (hlb : lb.length ≤ 4000) (h0 : lb ≠ []) (h : lb.length = 1 ∨ val la < val lb) : DivC la lb := by
  intro W va vb sa sb
  obtain ⟨na, A, ca, hna, rfl, sa⟩ := sl_len sa
  obtain ⟨nb, B, cb, hnb, rfl, sb⟩ := sl_len sb
  by_cases hlt : val la < val lb
  · refine (divide_lt la lb A B na nb ca cb W sa sb ha hb hla hlb hlt).mono ?_
    rintro e w' ⟨r, rfl, hs, hbl⟩
    refine ⟨_, r, rfl, ?_, ?_, hbl⟩
    · rw [Nat.div_eq_of_lt hlt, digs_zero]; exact Sl.nil _
    · rw [Nat.mod_eq_of_lt hlt, ha.2]; exact hs
  · have h1 : lb.length = 1 := by omega
    have hn1 : nb = 1 := by have := hnb.out; omega
    subst hn1
    obtain ⟨b1, b2, B', cb', e, b3, b4, b5⟩ := id sb
    injection e with e1 e2 e3
    subst e1 e3
    obtain ⟨bB, oB, rfl, hbl, hc⟩ := b5.cells (by omega)
    have hlast := norm_last hb h0
    rw [h1] at hlast
    have hx : 0 < nth lb 0 ∧ nth lb 0 < 65536 := ⟨Nat.pos_of_ne_zero hlast, nth_lt hb.1 0⟩
    have hv : val lb = nth lb 0 := by
      match lb, h1 with
      | [x], _ => simp [val, nth]
    have hla0 : 0 < na := by
      rcases Nat.eq_zero_or_pos na with h2 | h2
      · exfalso
        have : la = [] := List.eq_nil_of_length_eq_zero (by rw [hna.out]; exact h2)
        subst this
        simp [val] at hlt
        omega
      · exact h2
    exact divide_one la lb A na ca bB oB cb W sa sb hna hnb ha hb hla (by omega) hla0 (by simpa using hc 0 (by omega)) hbl hx hv
end Go.Proofs.Ytgnidjhfiagfnaa
