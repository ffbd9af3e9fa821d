/- Reading a decimal form. Conditions: none but on the lengths. -/
import Derived.Test.YtgnidjhfiagfnaaXm
import Derived.Test.YtgnidjhfiagfnaaDecm
namespace Go.Proofs.Ytgnidjhfiagfnaa
open Go.RowKit

theorem dg_nth {l : List Nat} (h : Dg l) {k : Nat} (hk : k < l.length) : 48 ≤ nth l k ∧ nth l k ≤ 57 := by
  unfold nth
  rw [List.getD_eq_getElem?_getD, List.getElem?_eq_getElem hk]
  exact h _ (List.getElem_mem hk)

set_option maxRecDepth 100000 in
set_option maxHeartbeats 2000000 in
theorem chunk_any (s : ByteArray) (w : World) (hn : s.size ≤ 9) (hd : Dg (byt s)) :
    Calls Try.prog 76 #[.string s] w fun e w' => e = .returned (.int .i64 (decM 0 (byt s))) ∧ w = w' := by
  have HD : Hid (Dg (byt s)) := hd
  have HL : Hid ((byt s).length = s.size) := byt_length s
  clear hd
  go_enter Try.func76, Try.ntmps76
  go_wp2
  go_loopw [3, 7] (fun c i wr => ∃ (k m : Nat), k ≤ s.size ∧ i = .int .i64 k ∧ c = .int .i64 m ∧ m ≤ 1000000000 ∧ Hid (decM 0 ((byt s).take k) = m) ∧ w = wr) (fun _ i _ => s.size - (intOf i).toNat)
  case atStart => exact ⟨0, 0, by omega, rfl, rfl, by omega, by (show _ = _; simp [decM_nil]), rfl⟩
  case round =>
    obtain ⟨k, m, hk, rfl, rfl, hm, HM, rfl⟩ := hrel
    by_cases hlt : k < s.size
    · have hx := dg_nth HD.out (k := k) (by rw [HL.out]; exact hlt)
      rw [byt_nth s k hlt] at hx
      have hstep := decM_take_succ (byt s) k (by rw [HL.out]; exact hlt)
      rw [byt_nth s k hlt, HM.out] at hstep
      have HS : Hid (decM 0 ((byt s).take (k + 1)) = m * 10 + (s[k].toNat - 48)) := hstep
      have hb : m * 10 + (s[k].toNat - 48) ≤ 1000000000 := by
        have h1 := decM_lt (dg_take HD.out (k + 1))
        rw [hstep, List.length_take, HL.out, Nat.min_eq_left (by omega)] at h1
        have h2 : 10 ^ (k + 1) ≤ 10 ^ 9 := Nat.pow_le_pow_right (by omega) (by omega)
        omega
      clear hstep
      go_wp2
      go_roundw
      case rel => exact ⟨k + 1, m * 10 + (s[k].toNat - 48), by omega, by go_num, by go_num, hb, HS, by first | rfl | trivial⟩
      case measure => simp [intOf]; omega
    · obtain rfl : k = s.size := by omega
      go_wp2
      go_ret
      refine ⟨?_, rfl⟩
      have h1 := HM.out
      rw [List.take_of_length_le (by rw [HL.out]; omega)] at h1
      rw [h1]
      rfl

set_option maxRecDepth 100000 in
set_option maxHeartbeats 2000000 in
theorem scale_any (l : List Nat) (A : Option Addr) (n c F E : Nat) (w : World) (hn : Hid (l.length = n)) (hnl : n ≤ 4000) (hl : Limbs l) (hA : At w A l) (hF : F ≤ 4294967296) (hE : E ≤ 4294967296) :
    Calls Try.prog 75 #[.slice A n c, .int .i64 F, .int .i64 E] w fun e w' => ∃ v, e = .returned v ∧ Sl w' v (digs (val l * F + E)) ∧ Below w.heap.size w w' := by
  go_enter Try.func75, Try.ntmps75
  go_wp2_with (go_at_call 84; refine (collector_int _ _ (by omega) (by omega)).mono ?_; rintro e w1 ⟨P, C, S, rfl, hcol, hb1⟩)
  go_loopw [2, 20] (fun x i wr => ∃ (k cy ex : Nat) (L : List Nat), k ≤ n ∧ i = .int .i64 k ∧ x = .int .i64 ex ∧ ex ≤ 4294967296 ∧ cy ≤ 8589934592 ∧ L.length ≤ 4000 ∧ Col wr w.heap.size P C S cy L ∧ Below w.heap.size w wr ∧ Hid (Limbs L ∧ L.length = k ∧ (0 < k → ex = 0) ∧ (k = 0 → ex = E) ∧ val L + 65536 ^ k * cy = val (l.take k) * F + (E - ex))) (fun _ i _ => n - (intOf i).toNat)
  case atStart => exact ⟨0, 0, E, [], by omega, rfl, rfl, hE, by omega, by simp, hcol, hb1, limbs_nil, rfl, by omega, fun _ => rfl, by simp [val]⟩
  case round =>
    obtain ⟨k, cy, ex, L, hk, rfl, rfl, hex, hcy, hL, hcol, hbel, H⟩ := hrel
    have hexE : ex ≤ E := by
      rcases Nat.eq_zero_or_pos k with h | h
      · have := H.out.2.2.2.1 h; omega
      · have := H.out.2.2.1 h; omega
    by_cases hlt : k < n
    · obtain ⟨bA, oA, rfl, lA, cA⟩ := hA.cells (by rw [hn.out]; omega)
      have xA := (hbel.cell (p := ⟨bA, oA + k, none⟩) lA).trans (cA k (by rw [hn.out]; exact hlt))
      clear cA
      have hu := nth_lt hl k
      obtain ⟨a, ha⟩ : ∃ a, nth l k = a := ⟨_, rfl⟩
      rw [ha] at xA hu
      have hp : a * F ≤ 65535 * 4294967296 := Nat.mul_le_mul (by omega) hF
      have HN : Hid (Limbs (L ++ [(cy + (a * F + ex)) % 65536]) ∧ (L ++ [(cy + (a * F + ex)) % 65536]).length = k + 1 ∧ (0 < k + 1 → 0 = 0) ∧ (k + 1 = 0 → 0 = E) ∧ val (L ++ [(cy + (a * F + ex)) % 65536]) + 65536 ^ (k + 1) * ((cy + (a * F + ex)) / 65536) = val (l.take (k + 1)) * F + (E - 0)) := by
        refine ⟨limbs_append.2 ⟨H.out.1, by intro t ht; simp at ht; omega⟩, by rw [List.length_append, H.out.2.1]; rfl, fun _ => rfl, fun h => by omega, ?_⟩
        rw [put_col H.out.2.1 H.out.2.2.2.2, take_val_succ, ha]
        rcases Nat.eq_zero_or_pos k with h | h
        · have := H.out.2.2.2.1 h
          subst h this
          simp [val]
        · have := H.out.2.2.1 h
          subst this
          generalize 65536 ^ k = p
          generalize val (l.take k) = v
          grind
      have hlen : Hid ((L ++ [(cy + (a * F + ex)) % 65536]).length ≤ 4000) := by show _ ≤ _; rw [List.length_append, H.out.2.1]; simp; omega
      have hcast : ((a : Int) * F + ex) = ((a * F + ex : Nat) : Int) := by simp
      have HC : Hid (((a : Int) * F + ex) = ((a * F + ex : Nat) : Int)) := hcast
      have hcy2 : (cy + (a * F + ex)) / 65536 ≤ 8589934592 := by omega
      have hpi : (a : Int) * F ≤ 281474976710656 := by
        have : ((a * F : Nat) : Int) ≤ 281474976710656 := by omega
        rwa [Int.natCast_mul] at this
      have hpz : 0 ≤ (a : Int) * F := Int.mul_nonneg (by omega) (by omega)
      clear H hcast ha hp
      go_wp2_with (rw [HC.out]; go_at_call 94; refine (put_nat w.heap.size P C S cy (a * F + ex) L wr hcol (by omega) (by omega) (by omega)).mono ?_; rintro e w2 ⟨rfl, hcol2, hb2⟩)
      go_roundw
      case rel => exact ⟨k + 1, (cy + (a * F + ex)) / 65536, 0, _, by omega, by go_num, rfl, by omega, hcy2, hlen.out, hcol2, hbel.trans hb2, ⟨HN.out.1, HN.out.2.1, fun _ => rfl, HN.out.2.2.2.1, HN.out.2.2.2.2⟩⟩
      case measure => simp [intOf]; omega
    · obtain rfl : k = n := by omega
      have HL : Hid (Limbs (L ++ [(cy + ex) % 65536]) ∧ val (L ++ [(cy + ex) % 65536]) + 65536 ^ (L ++ [(cy + ex) % 65536]).length * ((cy + ex) / 65536) = val l * F + E) := by
        refine ⟨limbs_append.2 ⟨H.out.1, by intro t ht; simp at ht; omega⟩, ?_⟩
        have h1 := put_col (u := ex) H.out.2.1 H.out.2.2.2.2
        rw [List.length_append, H.out.2.1, List.length_cons, List.length_nil, Nat.zero_add, h1, List.take_of_length_le (by rw [hn.out]; omega)]
        rcases Nat.eq_zero_or_pos k with h | h
        · subst h; simp; omega
        · have := H.out.2.2.1 h
          subst this; simp
      have hlen : (L ++ [(cy + ex) % 65536]).length ≤ 4001 := by rw [List.length_append]; simp; omega
      clear H
      go_wp2_with (first | (go_at_call 94; refine (put_nat w.heap.size P C S cy ex L wr hcol (by omega) (by omega) (by omega)).mono ?_; rintro e w2 ⟨rfl, hcol2, hb2⟩) | (go_at_call 95; refine (finish_any w.heap.size P C S ((cy + ex) / 65536) _ w2 hcol2 HL.out.1 (by omega) (by omega)).mono ?_; rintro e w3 ⟨v3, rfl, hsl, hb3⟩))
      go_ret
      rw [HL.out.2] at hsl
      exact ⟨v3, rfl, hsl, (hbel.trans hb2).trans hb3⟩

theorem byt_extract (r : ByteArray) (i j : Nat) : byt (r.extract i j) = ((byt r).drop i).take (j - i) := by
  unfold byt
  rw [ByteArray.data_extract, Array.toList_extract, List.extract_eq_take_drop, List.map_take, List.map_drop]

theorem digs_of_tens {v k m : Nat} (h : v < 10 ^ k) (hk : k ≤ 4 * m) : (digs v).length ≤ m := by
  refine digs_length (Nat.lt_of_lt_of_le h (Nat.le_trans (Nat.pow_le_pow_right (by omega) hk) ?_))
  rw [Nat.pow_mul]
  exact Nat.pow_le_pow_left (by omega) _

set_option maxRecDepth 100000 in
set_option maxHeartbeats 2000000 in
theorem limbsOfDigits_any (s : ByteArray) (w : World) (hn : s.size ≤ 5000) (hd : Dg (byt s)) :
    Calls Try.prog 53 #[.string s] w fun e w' => ∃ v, e = .returned v ∧ Sl w' v (digs (decM 0 (byt s))) ∧ Below w.heap.size w w' := by
  have hbig : ∀ v, v ≤ decM 0 (byt s) → (digs v).length ≤ 4000 := by
    intro v hv
    have h1 := decM_lt hd
    rw [byt_length] at h1
    have h5 := digs_of_tens (k := s.size) (m := 1250) (Nat.lt_of_le_of_lt hv h1) (by omega)
    omega
  have HBG : Hid (∀ v, v ≤ decM 0 (byt s) → (digs v).length ≤ 4000) := hbig
  clear hbig
  go_enter Try.func53, Try.ntmps53
  go_wp2
  go_loopw [0, 3] (fun t l wr => ∃ (r : ByteArray) (v : Nat) (n' : Nat) (A : Option Addr) (c : Nat), t = .string r ∧ r.size ≤ s.size ∧ l = .slice A n' c ∧ Sl wr (.slice A n' c) (digs v) ∧ Below w.heap.size w wr ∧ Hid ((digs v).length = n' ∧ v ≤ decM 0 (byt s) ∧ Dg (byt r) ∧ (v = 0 ∨ r.size % 9 = 0) ∧ decM v (byt r) = decM 0 (byt s))) (fun t _ _ => match t with | .string r => r.size | _ => 0)
  case atStart => exact ⟨s, 0, 0, none, 0, rfl, by omega, rfl, by rw [digs_zero]; exact Sl.nil w, Below.refl _ _, by rw [digs_zero]; rfl, by omega, hd, .inl rfl, rfl⟩
  case round =>
    obtain ⟨r, v, n', A, c, rfl, hr, rfl, hs, hbel, H⟩ := hrel
    by_cases h0 : 0 < r.size
    · obtain ⟨n, hn'⟩ : ∃ n : Nat, (r.size - 1) % 9 + 1 = n := ⟨_, rfl⟩
      have hn1 : ((r.size : Int) - 1) % 9 + 1 = (n : Int) := by omega
      have hnr : n ≤ r.size := by omega
      have hn9 : n ≤ 9 := by omega
      have hd1 : Dg (byt (r.extract 0 n)) := by rw [byt_extract]; exact dg_take (dg_drop H.out.2.2.1 _) _
      have hs1 : (r.extract 0 n).size ≤ 9 := by rw [ByteArray.size_extract]; omega
      have hs2 : (r.extract n r.size).size = r.size - n := by rw [ByteArray.size_extract]; omega
      have e1 : byt (r.extract 0 n) = (byt r).take n := by rw [byt_extract, List.drop_zero, Nat.sub_zero]
      have e2 : byt (r.extract n r.size) = (byt r).drop n := by rw [byt_extract, List.take_of_length_le (by rw [List.length_drop, byt_length]; omega)]
      obtain ⟨ch, hch⟩ : ∃ ch, decM 0 (byt (r.extract 0 n)) = ch := ⟨_, rfl⟩
      have hch9 : ch < 10 ^ n := by
        have := decM_lt hd1
        rw [hch, e1, List.length_take, byt_length, Nat.min_eq_left hnr] at this
        exact this
      have hchb : ch ≤ 1000000000 := by
        have : 10 ^ n ≤ 10 ^ 9 := Nat.pow_le_pow_right (by omega) hn9
        omega
      have hval : decM (v * 1000000000 + ch) (byt (r.extract n r.size)) = decM 0 (byt s) := by
        rw [← H.out.2.2.2.2, e2]
        have e3 : byt r = (byt r).take n ++ (byt r).drop n := (List.take_append_drop n (byt r)).symm
        conv => rhs; rw [e3, decM_append, decM_acc v]
        rw [← e1, hch, e1, List.length_take, byt_length, Nat.min_eq_left hnr]
        congr 1
        rcases H.out.2.2.2.1 with h | h
        · subst h; simp
        · have : n = 9 := by omega
          subst this; rfl
      have hle : v * 1000000000 + ch ≤ decM 0 (byt s) := by
        rw [← hval, decM_acc]
        have : 1 ≤ 10 ^ (byt (r.extract n r.size)).length := Nat.pow_pos (by omega)
        have := Nat.mul_le_mul_left (v * 1000000000 + ch) this
        omega
      have hl0 := HBG.out v H.out.2.1
      have HX : Hid (v * 1000000000 + ch ≤ decM 0 (byt s) ∧ Dg (byt (r.extract n r.size)) ∧ (v * 1000000000 + ch = 0 ∨ (r.extract n r.size).size % 9 = 0) ∧ decM (v * 1000000000 + ch) (byt (r.extract n r.size)) = decM 0 (byt s)) := by
        refine ⟨hle, ?_, .inr ?_, hval⟩
        · rw [byt_extract]; exact dg_take (dg_drop H.out.2.2.1 _) _
        · rw [hs2]; omega
      have HC : Hid (∀ W, Calls Try.prog 76 #[.string (r.extract 0 n)] W fun e w' => e = .returned (.int .i64 ch) ∧ W = w') := fun W => by
        have := chunk_any (r.extract 0 n) W hs1 hd1
        rw [hch] at this
        exact this
      have HS : Hid (Calls Try.prog 75 #[.slice A n' c, .int .i64 1000000000, .int .i64 ch] wr fun e w' => ∃ u, e = .returned u ∧ Sl w' u (digs (v * 1000000000 + ch)) ∧ Below wr.heap.size wr w') := by
        obtain ⟨a1, _, A', c', e, _, _, a2⟩ := hs
        injection e with x1 x2 x3
        subst x1 x3
        have := scale_any (digs v) A n' c 1000000000 ch wr H.out.1 (by have := H.out.1; omega) a1 a2 (by omega) (by omega)
        rw [val_digs] at this
        exact this
      have hsz : r.size - n < r.size := by omega
      have HZ : Hid ((r.extract n r.size).size = r.size - n) := hs2
      clear hval hle hch hch9 e1 e2 hd1 hs1 hs2 hl0
      go_wp2_with (first | (go_at_call 76; refine (HC.out _).mono ?_; rintro e w2 ⟨rfl, rfl⟩) | (go_at_call 75; refine HS.out.mono ?_; rintro e w3 ⟨u, rfl, hs3, hb3⟩; obtain ⟨n3, A3, c3, Hn3, rfl, hs3⟩ := sl_len hs3))
      go_roundw
      case rel => exact ⟨r.extract n r.size, v * 1000000000 + ch, n3, A3, c3, rfl, by have := HZ.out; omega, rfl, hs3, hbel.trans (hb3.mono hbel.size), Hn3.out, HX.out.1, HX.out.2.1, HX.out.2.2.1, HX.out.2.2.2⟩
      case measure => have := HZ.out; simp at this ⊢; omega
    · have hr0 : r.size = 0 := by omega
      have hb0 : byt r = [] := List.eq_nil_of_length_eq_zero (by rw [byt_length]; exact hr0)
      have HV : Hid (v = decM 0 (byt s)) := by have := H.out.2.2.2.2; rw [hb0, decM_nil] at this; exact this
      go_wp2
      go_ret
      rw [← HV.out]
      exact ⟨_, rfl, hs, hbel⟩
end Go.Proofs.Ytgnidjhfiagfnaa
