/- Numbers out of ints by the reference; the comparisons of the examples. Conditions: the numbers are in memory. -/
import Derived.Test.YtgnidjhfiagfnaaWr
import Derived.Maps.AppendAt
namespace Go.Proofs.Ytgnidjhfiagfnaa
open Go.RowKit

theorem digs_step (L : List Nat) (u : Nat) (h : u ≠ 0) : (L ++ [u % 65536]) ++ digs (u / 65536) = L ++ digs u := by
  rw [List.append_assoc, digs_pos h]; rfl

theorem vals_snoc_nat (L : List Nat) (n : Nat) : vals (L ++ [n]) = vals L ++ [.int .u16 (n : Int)] := by
  unfold vals; rw [List.map_append]; rfl

theorem sl_own {w : World} {base : Nat} {A : Option Addr} {cap : Nat} {L : List Nat} (hL : Limbs L) (hl : L.length ≤ 70368744177664) (h : w.ownsRow base 22 1 (.slice A L.length cap) L.length (vals L)) : Sl w (.slice A L.length cap) L :=
  ⟨hL, hl, A, cap, rfl, (own_cap h).1, (own_cap h).2, at_own h⟩

set_option maxRecDepth 100000 in
set_option maxHeartbeats 2000000 in
theorem refInt_pos (N : Nat) (w : World) (h1 : N ≤ 9223372036854775807) :
    Calls Try.prog 57 #[.int .i64 (N : Int)] w fun e w' => ∃ v, e = .returned v ∧ WhZ w' v (N : Int) ∧ Below w.heap.size w w' := by
  obtain ⟨i0, hi, hz0, hz1, hz2⟩ := info_parts info22
  have b0 := Blk.new w 26 #[.bool false, .slice none 0 0]
  have bw : Below w.heap.size w (w.alloc (.cells #[.bool false, .slice none 0 0] 26)) := (Below.refl w.heap.size w).alloc (Nat.le_refl _) _
  go_enter Try.func57, Try.ntmps57
  go_wp2
  go_loopw [3, 4] (fun u l wr => ∃ (m : Nat) (L : List Nat) (A : Option Addr) (cap : Nat), u = .int .u64 m ∧ l = .slice A L.length cap ∧ m ≤ N ∧ L.length + (digs m).length ≤ 4 ∧ wr.ownsRow (w.heap.size + 1) 22 1 (.slice A L.length cap) L.length (vals L) ∧ Blk wr w.heap.size 26 #[.bool false, .slice none 0 0] ∧ Below w.heap.size w wr ∧ Hid (Limbs L ∧ L ++ digs m = digs N)) (fun u _ _ => (intOf u).toNat)
  case atStart =>
    have : (digs N).length ≤ 4 := digs_length (by omega)
    exact ⟨N, [], none, 0, rfl, rfl, Nat.le_refl _, by simpa using this, World.ownsRow_nil _ _ _ _, b0, bw, limbs_nil, rfl⟩
  case round =>
    obtain ⟨m, L, A, cap, rfl, rfl, hm, hlen, hown, hblk, hbel, HL⟩ := hrel
    by_cases hz : m = 0
    · subst hz
      have hs := sl_own HL.out.1 (by omega) hown
      have hLN : L = digs N := by have := HL.out.2; rwa [digs_zero, List.append_nil] at this
      have HN : Hid (L = digs N) := hLN
      have l0 := hblk.lt
      clear hLN
      go_wp2_with (go_at_call 66; refine (make_any _ _ _ _ _).mono ?_; rintro e w2 ⟨rfl, hb2⟩; have d2 := hblk.below hb2 l0; have g4 := (d2.cell 0).trans (b := some (Value.bool false)) rfl; have g5 := (d2.cell 1).trans (b := some (Value.slice none 0 0)) rfl; have h4 := d2.frozen 0; have h5 := d2.frozen 1; have l4 := d2.lt)
      have d4 := (d2.set_ 0 (.bool (decide ((N : Int) < 0) && decide (0 < L.length)))).set_ 1 (.slice A L.length cap)
      have r0 := (d4.cell 0).trans (b := some (Value.bool (decide ((N : Int) < 0) && decide (0 < L.length)))) rfl
      have r1 := (d4.cell 1).trans (b := some (Value.slice A L.length cap)) rfl
      have s5 := (hs.below hb2).store2 d2 (decide ((N : Int) < 0) && decide (0 < L.length)) A L.length cap
      refine bodyPost_ret (v := .agg #[.bool (decide ((N : Int) < 0) && decide (0 < L.length)), .slice A L.length cap]) (by simp [results, Try.f57, go_sem, r0, r1]) rfl ⟨_, rfl, ?_, ((hbel.trans (hb2.mono hbel.size)).setCell (p := ⟨w.heap.size, 0, none⟩) (Nat.le_refl _) _).setCell (p := ⟨w.heap.size, 1, none⟩) (Nat.le_refl _) _⟩
      have hN := HN.out
      subst hN
      have := signed_z (x := decide ((N : Int) < 0)) (m := N) (z := (N : Int)) (A := A) (c := cap) (by have := sgn_abs (N : Int); rwa [show ((N : Int)).natAbs = N from by omega] at this) s5
      exact this
    · have hm0 : (0 : Int) < (m : Int) := by omega
      go_wp2_with (at_builtin; refine wpList_append_own _ rfl _ _ 24 rfl (w.heap.size + 1) 22 i0 (.int .u16 0) 1 2 Try.underlying24 hi hz0 hz1 hz2 rfl (by decide) _ _ _ rfl (hown.alloc _) ⟨wr.heap.size, 0, none⟩ 1 1 [.int .u16 ((m : Int) % 65536)] rfl rfl ?c1 ?c2 ?c3 ?c4 ?c5 ?_)
      case c1 => exact cell_one_new _ _ _
      case c2 => intro u hu; simp at hu; subst hu; rfl
      case c3 => unfold maxLen; omega
      case c4 => omega
      case c5 => have := hblk.lt; simp; omega
      intro v' w1 hown' hgrow _
      obtain ⟨g', cap', rfl⟩ := ownsRow_succ hown'
      have hlow := hown.lt
      have o1 := own_blk_ne hown hblk (by decide)
      have hlen2 : (L ++ [m % 65536]).length = L.length + 1 := by simp
      have hown2 : w1.ownsRow (w.heap.size + 1) 22 1 (.slice (some ⟨g', 0, none⟩) (L ++ [m % 65536]).length cap') (L ++ [m % 65536]).length (vals (L ++ [m % 65536])) := by
        rw [vals_snoc_nat, hlen2, show ((m % 65536 : Nat) : Int) = (m : Int) % 65536 from by omega]; exact hown'
      have hb2 : Below w.heap.size w w1 := (hbel.alloc hbel.size _).grown hgrow (by have := hbel.size; simp; omega) (fun k hk => by have := (hlow k hk).1; omega)
      have hblk2 := (hblk.alloc (.cells #[.int .u16 ((m : Int) % 65536)] 22)).grown hgrow (fun e => o1 e.symm)
      have hd := digs_pos hz
      have HL2 : Hid (Limbs (L ++ [m % 65536]) ∧ (L ++ [m % 65536]) ++ digs (m / 65536) = digs N) := ⟨limbs_put HL.out.1 m, by rw [digs_step L m hz]; exact HL.out.2⟩
      have hl3 : L.length + 1 + (digs (m / 65536)).length ≤ 4 := by rw [hd] at hlen; simp at hlen; omega
      clear hown hown' hgrow hlow hd hlen2
      go_wp2
      go_roundw
      case rel => exact ⟨m / 65536, L ++ [m % 65536], some ⟨g', 0, none⟩, cap', by go_num, by simp, by omega, by rw [List.length_append]; simpa using hl3, hown2, hblk2, hb2, HL2⟩
      case measure => simp [intOf]; omega

set_option maxRecDepth 100000 in
set_option maxHeartbeats 2000000 in
theorem refInt_neg (N : Nat) (w : World) (h0 : 0 < N) (h1 : N ≤ 9223372036854775808) :
    Calls Try.prog 57 #[.int .i64 (-(N : Int))] w fun e w' => ∃ v, e = .returned v ∧ WhZ w' v (-(N : Int)) ∧ Below w.heap.size w w' := by
  obtain ⟨i0, hi, hz0, hz1, hz2⟩ := info_parts info22
  have b0 := Blk.new w 26 #[.bool false, .slice none 0 0]
  have bw : Below w.heap.size w (w.alloc (.cells #[.bool false, .slice none 0 0] 26)) := (Below.refl w.heap.size w).alloc (Nat.le_refl _) _
  have HE : Hid (IntKind.u64.wrap (-IntKind.u64.wrap (-(N : Int))) = (N : Int)) := by show _ = _; rw [wrap_u64, wrap_u64]; omega
  go_enter Try.func57, Try.ntmps57
  go_wp2
  rw [HE.out]
  go_loopw [3, 4] (fun u l wr => ∃ (m : Nat) (L : List Nat) (A : Option Addr) (cap : Nat), u = .int .u64 m ∧ l = .slice A L.length cap ∧ m ≤ N ∧ L.length + (digs m).length ≤ 4 ∧ wr.ownsRow (w.heap.size + 1) 22 1 (.slice A L.length cap) L.length (vals L) ∧ Blk wr w.heap.size 26 #[.bool false, .slice none 0 0] ∧ Below w.heap.size w wr ∧ Hid (Limbs L ∧ L ++ digs m = digs N)) (fun u _ _ => (intOf u).toNat)
  case atStart =>
    have : (digs N).length ≤ 4 := digs_length (by omega)
    exact ⟨N, [], none, 0, rfl, rfl, Nat.le_refl _, by simpa using this, World.ownsRow_nil _ _ _ _, b0, bw, limbs_nil, rfl⟩
  case round =>
    obtain ⟨m, L, A, cap, rfl, rfl, hm, hlen, hown, hblk, hbel, HL⟩ := hrel
    by_cases hz : m = 0
    · subst hz
      have hs := sl_own HL.out.1 (by omega) hown
      have hLN : L = digs N := by have := HL.out.2; rwa [digs_zero, List.append_nil] at this
      have HN : Hid (L = digs N) := hLN
      have l0 := hblk.lt
      clear hLN
      go_wp2_with (go_at_call 66; refine (make_any _ _ _ _ _).mono ?_; rintro e w2 ⟨rfl, hb2⟩; have d2 := hblk.below hb2 l0; have g4 := (d2.cell 0).trans (b := some (Value.bool false)) rfl; have g5 := (d2.cell 1).trans (b := some (Value.slice none 0 0)) rfl; have h4 := d2.frozen 0; have h5 := d2.frozen 1; have l4 := d2.lt)
      have d4 := (d2.set_ 0 (.bool (decide (0 < L.length)))).set_ 1 (.slice A L.length cap)
      have r0 := (d4.cell 0).trans (b := some (Value.bool (decide (0 < L.length)))) rfl
      have r1 := (d4.cell 1).trans (b := some (Value.slice A L.length cap)) rfl
      have s5 := (hs.below hb2).store2 d2 (decide (0 < L.length)) A L.length cap
      refine bodyPost_ret (v := .agg #[.bool (decide (0 < L.length)), .slice A L.length cap]) (by simp [results, Try.f57, go_sem, r0, r1]) rfl ⟨_, rfl, ?_, ((hbel.trans (hb2.mono hbel.size)).setCell (p := ⟨w.heap.size, 0, none⟩) (Nat.le_refl _) _).setCell (p := ⟨w.heap.size, 1, none⟩) (Nat.le_refl _) _⟩
      have hN := HN.out
      subst hN
      have := signed_z (x := decide ((-(N : Int)) < 0)) (m := N) (z := (-(N : Int))) (A := A) (c := cap) (by have := sgn_abs (-(N : Int)); rwa [show ((-(N : Int))).natAbs = N from by omega] at this) s5
      have hd : decide ((-(N : Int)) < 0) = true := decide_eq_true (by omega)
      rw [hd, Bool.true_and] at this; exact this
    · have hm0 : (0 : Int) < (m : Int) := by omega
      go_wp2_with (at_builtin; refine wpList_append_own _ rfl _ _ 24 rfl (w.heap.size + 1) 22 i0 (.int .u16 0) 1 2 Try.underlying24 hi hz0 hz1 hz2 rfl (by decide) _ _ _ rfl (hown.alloc _) ⟨wr.heap.size, 0, none⟩ 1 1 [.int .u16 ((m : Int) % 65536)] rfl rfl ?c1 ?c2 ?c3 ?c4 ?c5 ?_)
      case c1 => exact cell_one_new _ _ _
      case c2 => intro u hu; simp at hu; subst hu; rfl
      case c3 => unfold maxLen; omega
      case c4 => omega
      case c5 => have := hblk.lt; simp; omega
      intro v' w1 hown' hgrow _
      obtain ⟨g', cap', rfl⟩ := ownsRow_succ hown'
      have hlow := hown.lt
      have o1 := own_blk_ne hown hblk (by decide)
      have hlen2 : (L ++ [m % 65536]).length = L.length + 1 := by simp
      have hown2 : w1.ownsRow (w.heap.size + 1) 22 1 (.slice (some ⟨g', 0, none⟩) (L ++ [m % 65536]).length cap') (L ++ [m % 65536]).length (vals (L ++ [m % 65536])) := by
        rw [vals_snoc_nat, hlen2, show ((m % 65536 : Nat) : Int) = (m : Int) % 65536 from by omega]; exact hown'
      have hb2 : Below w.heap.size w w1 := (hbel.alloc hbel.size _).grown hgrow (by have := hbel.size; simp; omega) (fun k hk => by have := (hlow k hk).1; omega)
      have hblk2 := (hblk.alloc (.cells #[.int .u16 ((m : Int) % 65536)] 22)).grown hgrow (fun e => o1 e.symm)
      have hd := digs_pos hz
      have HL2 : Hid (Limbs (L ++ [m % 65536]) ∧ (L ++ [m % 65536]) ++ digs (m / 65536) = digs N) := ⟨limbs_put HL.out.1 m, by rw [digs_step L m hz]; exact HL.out.2⟩
      have hl3 : L.length + 1 + (digs (m / 65536)).length ≤ 4 := by rw [hd] at hlen; simp at hlen; omega
      clear hown hown' hgrow hlow hd hlen2
      go_wp2
      go_roundw
      case rel => exact ⟨m / 65536, L ++ [m % 65536], some ⟨g', 0, none⟩, cap', by go_num, by simp, by omega, by rw [List.length_append]; simpa using hl3, hown2, hblk2, hb2, HL2⟩
      case measure => simp [intOf]; omega

theorem refInt_wh (n : Int) (w : World) (h0 : -9223372036854775808 ≤ n) (h1 : n ≤ 9223372036854775807) :
    Calls Try.prog 57 #[.int .i64 n] w fun e w' => ∃ v, e = .returned v ∧ WhZ w' v n ∧ Below w.heap.size w w' := by
  by_cases h : 0 ≤ n
  · obtain ⟨N, rfl⟩ := Int.eq_ofNat_of_zero_le h
    exact refInt_pos N w (by omega)
  · obtain ⟨N, hN⟩ := Int.eq_ofNat_of_zero_le (show 0 ≤ -n by omega)
    obtain rfl : n = -(N : Int) := by omega
    exact refInt_neg N w (by omega) (by omega)
theorem fromInt_wh (n : Int) (w : World) (h0 : -9223372036854775808 ≤ n) (h1 : n ≤ 9223372036854775807) :
    Calls Try.prog 55 #[.int .i64 n] w fun e w' => ∃ v, e = .returned v ∧ WhZ w' v n ∧ Below w.heap.size w w' := by
  by_cases h : 0 ≤ n
  · exact fromInt_pos n w h h1
  · exact fromInt_neg n w (by omega) h0

set_option maxRecDepth 100000 in
set_option maxHeartbeats 400000 in
theorem num_wh (n : Int) (w : World) (h0 : -9223372036854775808 ≤ n) (h1 : n ≤ 9223372036854775807) :
    Calls Try.prog 25 #[.int .i64 n] w fun e w' => ∃ v, e = .returned v ∧ WhZ w' v n ∧ Below w.heap.size w w' := by
  have b0 := Blk.new w 26 #[.bool false, .slice none 0 0]
  have l0 := b0.lt
  go_enter Try.func25, Try.ntmps25
  go_wp2_with (go_at_call 55; refine (fromInt_wh _ _ h0 h1).mono ?_; rintro e w1 ⟨v, rfl, hz, hb1⟩; obtain ⟨m, A, c, Hm, rfl, hs⟩ := whz_len hz; have d2 := b0.below hb1 l0; have g4 := (d2.cell 0).trans (b := some (Value.bool false)) rfl; have g5 := (d2.cell 1).trans (b := some (Value.slice none 0 0)) rfl; have h4 := d2.frozen 0; have h5 := d2.frozen 1; have l4 := d2.lt)
  have d4 := (d2.set_ 0 (.bool (decide (n < 0)))).set_ 1 (.slice A m c)
  have r0 := (d4.cell 0).trans (b := some (Value.bool (decide (n < 0)))) rfl
  have r1 := (d4.cell 1).trans (b := some (Value.slice A m c)) rfl
  have s5 := hs.store2 d2 (decide (n < 0)) A m c
  have bz := ((Below.refl w.heap.size w).alloc (Nat.le_refl _) (.cells #[.bool false, .slice none 0 0] 26)).trans (hb1.mono (by simp))
  exact bodyPost_ret (v := .agg #[.bool (decide (n < 0)), .slice A m c]) (by simp [results, Try.f25, go_sem, r0, r1]) rfl ⟨_, rfl, ⟨A, c, by rw [Hm.out], by rw [Hm.out]; exact s5⟩, (bz.setCell (p := ⟨w.heap.size, 0, none⟩) (Nat.le_refl _) _).setCell (p := ⟨w.heap.size, 1, none⟩) (Nat.le_refl _) _⟩
end Go.Proofs.Ytgnidjhfiagfnaa
