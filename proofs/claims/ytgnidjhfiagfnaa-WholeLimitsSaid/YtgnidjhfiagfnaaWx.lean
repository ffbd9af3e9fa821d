/- The greatest common divisor of numbers that fit into words. Conditions: the numbers are in memory. -/
import Derived.Test.YtgnidjhfiagfnaaWw
namespace Go.Proofs.Ytgnidjhfiagfnaa
open Go.RowKit

set_option maxRecDepth 100000 in
set_option maxHeartbeats 2000000 in
theorem gcdWords_any (la lb : List Nat) (A B : Option Addr) (na nb ca cb : Nat) (w : World) (hsa : Sl w (.slice A na ca) la) (hsb : Sl w (.slice B nb cb) lb) (hna : Hid (la.length = na)) (hnb : Hid (lb.length = nb)) (ha : na ≤ 4) (hb : nb ≤ 4) :
    Calls Try.prog 91 #[.slice A na ca, .slice B nb cb] w fun e w' => e = .returned (.int .u64 (Nat.gcd (val la) (val lb))) ∧ Below w.heap.size w w' := by
  have l1 := val_lt hsa.1
  have l2 := val_lt hsb.1
  have m1 : val la < 18446744073709551616 := Nat.lt_of_lt_of_le l1 (Nat.le_trans (Nat.pow_le_pow_right (by omega) (by rw [hna.out]; exact ha)) (by decide : 65536 ^ 4 ≤ 18446744073709551616))
  have m2 : val lb < 18446744073709551616 := Nat.lt_of_lt_of_le l2 (Nat.le_trans (Nat.pow_le_pow_right (by omega) (by rw [hnb.out]; exact hb)) (by decide : 65536 ^ 4 ≤ 18446744073709551616))
  obtain ⟨a0, ha0⟩ : ∃ a0, val la = a0 := ⟨_, rfl⟩
  obtain ⟨b0, hb0⟩ : ∃ b0, val lb = b0 := ⟨_, rfl⟩
  have H1 : Hid (Calls Try.prog 56 #[.slice A na ca] w fun e w' => e = .returned (.tuple #[.int .u64 a0, .bool true]) ∧ Below w.heap.size w w') := by
    rw [← ha0]; exact word_any la A na ca w hsa hna ha
  have H2 : Hid (∀ w1, Below w.heap.size w w1 → Calls Try.prog 56 #[.slice B nb cb] w1 fun e w' => e = .returned (.tuple #[.int .u64 b0, .bool true]) ∧ Below w1.heap.size w1 w') := fun w1 h => by
    rw [← hb0]; exact word_any lb B nb cb w1 (hsb.below h) hnb hb
  rw [ha0, hb0]
  rw [ha0] at m1
  rw [hb0] at m2
  clear ha0 hb0 l1 l2 hsa hsb
  obtain ⟨G, hG⟩ : ∃ G, Nat.gcd a0 b0 = G := ⟨_, rfl⟩
  rw [hG]
  have HG : Hid (Nat.gcd a0 b0 = G) := hG
  clear hG
  go_enter Try.func91, Try.ntmps91
  go_wp2_with (first | (go_at_call 56; refine H1.out.mono ?_; clear H1; rintro e w1 ⟨rfl, hb1⟩) | (go_at_call 56; refine (H2.out _ hb1).mono ?_; clear H2; rintro e w2 ⟨rfl, hb2⟩))
  have bw := hb1.trans (hb2.mono hb1.size)
  go_loopw [5, 7] (fun x y wr => ∃ (a b : Nat), x = .int .u64 a ∧ y = .int .u64 b ∧ a < 18446744073709551616 ∧ b < 18446744073709551616 ∧ Below w.heap.size w wr ∧ Hid (Nat.gcd a b = G)) (fun _ y _ => (intOf y).toNat)
  case atStart => exact ⟨a0, b0, rfl, rfl, m1, m2, bw, HG⟩
  case round =>
    obtain ⟨a, b, rfl, rfl, h1, h2, hbel, HQ⟩ := hrel
    by_cases hz : b = 0
    · subst hz
      go_wp2
      go_ret
      refine ⟨?_, hbel⟩
      have := HQ.out
      rw [Nat.gcd_zero_right] at this
      rw [← this]; rfl
    · have hz1 : (((b : Nat) : Int) != 0) = true := by rw [bne_iff_ne]; omega
      have hm := Nat.mod_lt a (Nat.pos_of_ne_zero hz)
      have hrem : ∀ W : World, (binOp .rem 62 (.int .u64 (a : Int)) (.int .u64 (b : Int))).run Try.prog W = .ok (.int .u64 ((a % b : Nat) : Int)) W := fun W => by
        have e : ((a : Int)).tmod (b : Int) = (a : Int) % (b : Int) := Int.tmod_eq_emod_of_nonneg (by omega)
        simp [go_sem, hz, e]
      have HG2 : Hid (Nat.gcd b (a % b) = G) := by show _ = _; rw [← HQ.out, Nat.gcd_comm a b, Nat.gcd_rec b a, Nat.gcd_comm]
      go_wp2
      go_quiet (fail)
      go_wp2
      have e1 : ((a : Int) % (b : Int)) = ((a % b : Nat) : Int) := (Int.natCast_emod a b).symm
      exact ⟨⟨b, a % b, rfl, by rw [e1], h2, by omega, ⟨hbel.os, hbel.tape, hbel.output, hbel.size, hbel.block⟩, HG2⟩, by rw [e1]; simp only [intOf, Int.toNat_natCast]; exact hm⟩

set_option maxRecDepth 100000 in
set_option maxHeartbeats 2000000 in
theorem gcd_short_k (la lb : List Nat) (A B : Option Addr) (na nb ca cb : Nat) (w : World) (hsa : Sl w (.slice A na ca) la) (hsb : Sl w (.slice B nb cb) lb) (hna : Hid (la.length = na)) (hnb : Hid (lb.length = nb)) (ha : Norm la) (hb : Norm lb) (hla : na ≤ 4) (hlb : nb ≤ 4) (hlt : val lb ≤ val la) :
    Calls Try.prog 83 #[.slice A na ca, .slice B nb cb] w fun e w' => ∃ v, e = .returned v ∧ Sl w' v (digs (Nat.gcd (val la) (val lb))) ∧ Below w.heap.size w w' := by
  have hcl := cmpL_ge ha hb hlt
  have HC : Hid (Calls Try.prog 62 #[.slice A na ca, .slice B nb cb] w fun e w' => e = .returned (.int .i64 (cmpL la lb)) ∧ Below w.heap.size w w') := compare_sl hsa hsb (by rw [hna.out]; omega) (by rw [hnb.out]; omega)
  obtain ⟨G, hG⟩ : ∃ G, Nat.gcd (val la) (val lb) = G := ⟨_, rfl⟩
  have HG : Hid (Nat.gcd (val la) (val lb) = G) := by show _ = _; rw [hG]
  rw [hG]
  clear hG
  have hgl : G < 18446744073709551616 := by
    have l1 := val_lt hsa.1
    have l2 := val_lt hsb.1
    have m1 : val la < 18446744073709551616 := Nat.lt_of_lt_of_le l1 (Nat.le_trans (Nat.pow_le_pow_right (by omega) (by rw [hna.out]; exact hla)) (by decide : 65536 ^ 4 ≤ 18446744073709551616))
    have m2 : val lb < 18446744073709551616 := Nat.lt_of_lt_of_le l2 (Nat.le_trans (Nat.pow_le_pow_right (by omega) (by rw [hnb.out]; exact hlb)) (by decide : 65536 ^ 4 ≤ 18446744073709551616))
    rw [← HG.out]
    rcases Nat.eq_zero_or_pos (val la) with h | h
    · rw [h, Nat.gcd_zero_left]; assumption
    · exact Nat.lt_of_le_of_lt (Nat.gcd_le_left _ h) (by assumption)
  go_enter Try.func83, Try.ntmps83
  go_wp2_with (go_at_call 62; refine HC.out.mono ?_; clear HC; rintro e w1 ⟨rfl, hb1⟩)
  have s1 := hsa.below hb1
  have t1 := hsb.below hb1
  clear hsa hsb hlt
  go_loopw [0, 1] (fun x y wr => x = .slice A na ca ∧ y = .slice B nb cb ∧ w1 = wr) (fun _ _ _ => 0)
  case atStart => exact ⟨rfl, rfl, rfl⟩
  case round =>
    obtain ⟨rfl, rfl, rfl⟩ := hrel
    by_cases h0 : nb = 0
    · have HZ : Hid (val lb = 0) := by
        have : lb = [] := List.eq_nil_of_length_eq_zero (by rw [hnb.out]; exact h0)
        show _ = _
        rw [this]; rfl
      subst h0
      have HK : Hid (Calls Try.prog 71 #[.slice A na ca] w1 fun e w' => ∃ A' c', e = .returned (.slice A' na c') ∧ w'.ownsRow w1.heap.size 22 1 (.slice A' na c') na (vals la) ∧ Below w1.heap.size w1 w') := by
        have := clone_sl s1
        rwa [hna.out] at this
      go_wp2_with (go_at_call 71; refine HK.out.mono ?_; rintro e w2 ⟨A', c', rfl, hown, hb2⟩)
      go_ret
      refine ⟨_, rfl, ?_, hb1.trans (hb2.mono hb1.size)⟩
      have hg : digs G = la := by rw [← HG.out, HZ.out, Nat.gcd_zero_right]; exact ha.2
      rw [hg]
      rw [← hna.out] at hown ⊢
      exact sl_own ha.1 (by have := hna.out; omega) hown
    · have h1 : 0 < nb := by omega
      have HW : Hid (Calls Try.prog 91 #[.slice A na ca, .slice B nb cb] w1 fun e w' => e = .returned (.int .u64 G) ∧ Below w1.heap.size w1 w') := by
        rw [← HG.out]
        exact gcdWords_any la lb A B na nb ca cb w1 s1 t1 hna hnb (by omega) (by omega)
      go_wp2_with (first | (go_at_call 91; refine HW.out.mono ?_; clear HW; rintro e w2 ⟨rfl, hb2⟩) | (go_at_call 60; refine (limbsOf_any _ _ (by omega) (by omega)).mono ?_; rintro e w3 ⟨v, rfl, hs, hb3⟩))
      go_ret
      rw [Int.toNat_natCast] at hs
      exact ⟨v, rfl, hs, (hb1.trans (hb2.mono hb1.size)).trans (hb3.mono (Nat.le_trans hb1.size hb2.size))⟩

set_option maxRecDepth 100000 in
set_option maxHeartbeats 2000000 in
theorem gcd_short_s (la lb : List Nat) (A B : Option Addr) (na nb ca cb : Nat) (w : World) (hsa : Sl w (.slice A na ca) la) (hsb : Sl w (.slice B nb cb) lb) (hna : Hid (la.length = na)) (hnb : Hid (lb.length = nb)) (ha : Norm la) (hb : Norm lb) (hla : na ≤ 4) (hlb : nb ≤ 4) (hlt : val la < val lb) :
    Calls Try.prog 83 #[.slice A na ca, .slice B nb cb] w fun e w' => ∃ v, e = .returned v ∧ Sl w' v (digs (Nat.gcd (val la) (val lb))) ∧ Below w.heap.size w w' := by
  have hcl := cmpL_lt ha hb hlt
  have HC : Hid (Calls Try.prog 62 #[.slice A na ca, .slice B nb cb] w fun e w' => e = .returned (.int .i64 (cmpL la lb)) ∧ Below w.heap.size w w') := compare_sl hsa hsb (by rw [hna.out]; omega) (by rw [hnb.out]; omega)
  obtain ⟨G, hG⟩ : ∃ G, Nat.gcd (val la) (val lb) = G := ⟨_, rfl⟩
  have HG : Hid (Nat.gcd (val lb) (val la) = G) := by show _ = _; rw [Nat.gcd_comm, hG]
  rw [hG]
  clear hG
  have hgl : G < 18446744073709551616 := by
    have l1 := val_lt hsa.1
    have l2 := val_lt hsb.1
    have m1 : val la < 18446744073709551616 := Nat.lt_of_lt_of_le l1 (Nat.le_trans (Nat.pow_le_pow_right (by omega) (by rw [hna.out]; exact hla)) (by decide : 65536 ^ 4 ≤ 18446744073709551616))
    have m2 : val lb < 18446744073709551616 := Nat.lt_of_lt_of_le l2 (Nat.le_trans (Nat.pow_le_pow_right (by omega) (by rw [hnb.out]; exact hlb)) (by decide : 65536 ^ 4 ≤ 18446744073709551616))
    rw [← HG.out]
    rcases Nat.eq_zero_or_pos (val lb) with h | h
    · rw [h, Nat.gcd_zero_left]; assumption
    · exact Nat.lt_of_le_of_lt (Nat.gcd_le_left _ h) (by assumption)
  go_enter Try.func83, Try.ntmps83
  go_wp2_with (go_at_call 62; refine HC.out.mono ?_; clear HC; rintro e w1 ⟨rfl, hb1⟩)
  have s1 := hsa.below hb1
  have t1 := hsb.below hb1
  clear hsa hsb hlt
  go_loopw [0, 1] (fun x y wr => x = .slice B nb cb ∧ y = .slice A na ca ∧ w1 = wr) (fun _ _ _ => 0)
  case atStart => exact ⟨rfl, rfl, rfl⟩
  case round =>
    obtain ⟨rfl, rfl, rfl⟩ := hrel
    by_cases h0 : na = 0
    · have HZ : Hid (val la = 0) := by
        have : la = [] := List.eq_nil_of_length_eq_zero (by rw [hna.out]; exact h0)
        show _ = _
        rw [this]; rfl
      subst h0
      have HK : Hid (Calls Try.prog 71 #[.slice B nb cb] w1 fun e w' => ∃ A' c', e = .returned (.slice A' nb c') ∧ w'.ownsRow w1.heap.size 22 1 (.slice A' nb c') nb (vals lb) ∧ Below w1.heap.size w1 w') := by
        have := clone_sl t1
        rwa [hnb.out] at this
      go_wp2_with (go_at_call 71; refine HK.out.mono ?_; rintro e w2 ⟨A', c', rfl, hown, hb2⟩)
      go_ret
      refine ⟨_, rfl, ?_, hb1.trans (hb2.mono hb1.size)⟩
      have hg : digs G = lb := by rw [← HG.out, HZ.out, Nat.gcd_zero_right]; exact hb.2
      rw [hg]
      rw [← hnb.out] at hown ⊢
      exact sl_own hb.1 (by have := hnb.out; omega) hown
    · have h1 : 0 < na := by omega
      have HW : Hid (Calls Try.prog 91 #[.slice B nb cb, .slice A na ca] w1 fun e w' => e = .returned (.int .u64 G) ∧ Below w1.heap.size w1 w') := by
        rw [← HG.out]
        exact gcdWords_any lb la B A nb na cb ca w1 t1 s1 hnb hna (by omega) (by omega)
      go_wp2_with (first | (go_at_call 91; refine HW.out.mono ?_; clear HW; rintro e w2 ⟨rfl, hb2⟩) | (go_at_call 60; refine (limbsOf_any _ _ (by omega) (by omega)).mono ?_; rintro e w3 ⟨v, rfl, hs, hb3⟩))
      go_ret
      rw [Int.toNat_natCast] at hs
      exact ⟨v, rfl, hs, (hb1.trans (hb2.mono hb1.size)).trans (hb3.mono (Nat.le_trans hb1.size hb2.size))⟩

/-- Absolute values that have a greatest common divisor. -/
def GcdC (la lb : List Nat) : Prop :=
  ∀ (W : World) (va vb : Value), Sl W va la → Sl W vb lb → Calls Try.prog 83 #[va, vb] W fun e w' => ∃ v, e = .returned v ∧ Sl w' v (digs (Nat.gcd (val la) (val lb))) ∧ Below W.heap.size W w'
theorem gcdc_small {la lb : List Nat} (ha : Norm la) (hb : Norm lb) (hla : la.length ≤ 4) (hlb : lb.length ≤ 4) : GcdC la lb := by
  intro W va vb sa sb
  obtain ⟨na, A, ca, hna, rfl, sa⟩ := sl_len sa
  obtain ⟨nb, B, cb, hnb, rfl, sb⟩ := sl_len sb
  have h1 : na ≤ 4 := by have := hna.out; omega
  have h2 : nb ≤ 4 := by have := hnb.out; omega
  by_cases h : val la < val lb
  · exact gcd_short_s la lb A B na nb ca cb W sa sb hna hnb ha hb h1 h2 h
  · exact gcd_short_k la lb A B na nb ca cb W sa sb hna hnb ha hb h1 h2 (by omega)

set_option maxRecDepth 100000 in
set_option maxHeartbeats 2000000 in
theorem common_any (x y : Bool) (la lb : List Nat) (A B : Option Addr) (na nb ca cb : Nat) (w : World) (hsa : Sl w (.slice A na ca) la) (hsb : Sl w (.slice B nb cb) lb) (_hna : Hid (la.length = na)) (_hnb : Hid (lb.length = nb)) (hg : GcdC la lb) :
    Calls Try.prog 64 #[.agg #[.bool x, .slice A na ca], .agg #[.bool y, .slice B nb cb]] w fun e w' => ∃ v, e = .returned v ∧ WhZ w' v (Nat.gcd (val la) (val lb)) ∧ Below w.heap.size w w' := by
  obtain ⟨W0, hW0⟩ : ∃ W0, ((w.alloc (.cells #[.bool x, .slice A na ca] 26)).alloc (.cells #[.bool y, .slice B nb cb] 26)).alloc (.cells #[.bool false, .slice none 0 0] 26) = W0 := ⟨_, rfl⟩
  have b2 : Blk W0 (w.heap.size + 2) 26 #[.bool false, .slice none 0 0] := by
    rw [← hW0]
    have := (Blk.new ((w.alloc (.cells #[.bool x, .slice A na ca] 26)).alloc (.cells #[.bool y, .slice B nb cb] 26)) 26 #[.bool false, .slice none 0 0])
    rwa [World.size_alloc, World.size_alloc] at this
  have bw : Below w.heap.size w W0 := by rw [← hW0]; exact (by repeat (first | exact Below.refl _ _ | assumption | refine Below.alloc ?_ (by first | (simp; done) | (simp; omega) | omega) _ | refine Below.setCell ?_ (by first | (simp; done) | (simp; omega) | omega) _ | refine Below.drew ?_))
  have HW : Hid (((w.alloc (.cells #[.bool x, .slice A na ca] 26)).alloc (.cells #[.bool y, .slice B nb cb] 26)).alloc (.cells #[.bool false, .slice none 0 0] 26) = W0) := hW0
  clear hW0
  have H1 : Hid (Calls Try.prog 83 #[.slice A na ca, .slice B nb cb] W0 fun e w' => ∃ v, e = .returned v ∧ Sl w' v (digs (Nat.gcd (val la) (val lb))) ∧ Below W0.heap.size W0 w') := hg _ _ _ (hsa.below bw) (hsb.below bw)
  have l2 := b2.lt
  clear hg hsa hsb
  go_enter Try.func64, Try.ntmps64
  go_wp2_with (first | (rw [HW.out]; go_at_call 83; refine H1.out.mono ?_; clear H1; rintro e w1 ⟨v, rfl, hs, hb1⟩; obtain ⟨n', A', c', Hn', rfl, hs⟩ := sl_len hs) | (go_at_call 54; refine (signed_any _ _ _ _ _).mono ?_; rintro e w2 ⟨rfl, hb2⟩; have d2 := (b2.below hb1 l2).below hb2 (Nat.lt_of_lt_of_le l2 hb1.size); have g4 := (d2.cell 0).trans (b := some (Value.bool false)) rfl; have g5 := (d2.cell 1).trans (b := some (Value.slice none 0 0)) rfl; have h4 := d2.frozen 0; have h5 := d2.frozen 1; have l4 := d2.lt))
  have d4 := (d2.set_ 0 (.bool false)).set_ 1 (.slice A' n' c')
  have r0 := (d4.cell 0).trans (b := some (Value.bool false)) rfl
  have r1 := (d4.cell 1).trans (b := some (Value.slice A' n' c')) rfl
  have s5 := (hs.below hb2).store2 d2 false A' n' c'
  refine bodyPost_ret (v := .agg #[.bool false, .slice A' n' c']) (by simp [results, Try.f64, go_sem, r0, r1]) rfl ⟨_, rfl, ?_, ((bw.trans (hb1.mono bw.size)).trans (hb2.mono (Nat.le_trans bw.size hb1.size))).setCell (p := ⟨w.heap.size + 2, 0, none⟩) (by simp) _ |>.setCell (p := ⟨w.heap.size + 2, 1, none⟩) (by simp) _⟩
  have := signed_z (x := false) (m := Nat.gcd (val la) (val lb)) (z := (Nat.gcd (val la) (val lb) : Int)) (A := A') (c := c') rfl (by rw [Hn'.out]; exact s5)
  rw [Hn'.out] at this
  exact this

theorem gcd_wh {w : World} {va vb : Value} {x y : Bool} {la lb : List Nat} (hA : Wh w va x la) (hB : Wh w vb y lb) (hg : validB x la = true → validB y lb = true → GcdC la lb) :
    Calls Try.prog 36 #[va, vb] w fun e w' => ∃ v, e = .returned (.tuple #[v, .int .i64 (code (validB x la && validB y lb) (Nat.gcd (val la) (val lb)))]) ∧ WhZ w' v (resz (validB x la && validB y lb) (Nat.gcd (val la) (val lb))) ∧ Below w.heap.size w w' := by
  obtain ⟨A, ca, rfl, sa⟩ := hA
  obtain ⟨B, cb, rfl, sb⟩ := hB
  refine gcdF_any _ (fun hx hy => ?_) sa sb rfl rfl
  rintro W va vb ⟨A', ca', rfl, sa'⟩ ⟨B', cb', rfl, sb'⟩
  exact common_any x y la lb A' B' _ _ ca' cb' W sa' sb' rfl rfl (hg hx hy)
end Go.Proofs.Ytgnidjhfiagfnaa
