/- The decimal digits of absolute values. Conditions: normal forms of at most 4000 limbs in memory. -/
import Derived.Test.YtgnidjhfiagfnaaWy
import Derived.Test.YtgnidjhfiagfnaaTens
namespace Go.Proofs.Ytgnidjhfiagfnaa
open Go.RowKit

theorem info5 : (Try.prog.info? 5).map (fun i => (i.zero, i.size, i.bytes)) = some (some (.int .u8 0), 1, 1) := by kernel_rfl

/-- Decimal digits as bytes. -/
def chars (l : List Nat) : List Value := l.map fun x : Nat => Value.int .u8 (48 + (x : Int))
theorem chars_snoc (l : List Nat) (x : Nat) : chars (l ++ [x]) = chars l ++ [.int .u8 (48 + (x : Int))] := by
  unfold chars; rw [List.map_append]; rfl
/-- The decimal digits of a number, the least significant one first; 0 has one. -/
def tens (n : Nat) : List Nat := if n = 0 then [0] else ddigs n

theorem own_take {w : World} {base e n cap k : Nat} {A : Option Addr} {xs : List Value} (h : w.ownsRow base e 1 (.slice A n cap) n xs) (hk : k ≤ n) : w.ownsRow base e 1 (.slice A k cap) k (xs.take k) := by
  obtain ⟨h1, h2⟩ := h
  refine ⟨by rw [List.length_take, h1]; omega, ?_⟩
  rcases h2 with ⟨e1, e2⟩ | ⟨g, c, cur, e1, h3, h4, h5, h6, h7, h8⟩
  · left
    injection e1 with a b c
    have : k = 0 := by omega
    subst this a c
    exact ⟨rfl, rfl⟩
  · right
    injection e1 with a b c'
    subst a c'
    refine ⟨g, cap, cur, rfl, h3, h4, by omega, h6, h7, ?_⟩
    rw [← h8, List.take_take]
    congr 1
    omega

theorem own_ne {w : World} {b1 b2 : Nat} {e1 e2 : TypeId} {s1 s2 n1 n2 : Nat} {v1 v2 : Value} {x1 x2 : List Value} (h : w.ownsRow b1 e1 s1 v1 n1 x1) (k : w.ownsRow b2 e2 s2 v2 n2 x2) (hne : e1 ≠ e2) : v1.ownBlock = none ∨ v1.ownBlock ≠ v2.ownBlock := by
  rcases h.2 with ⟨rfl, _⟩ | ⟨g, cap, cur, rfl, _, hh, _⟩
  · exact .inl rfl
  · right
    intro e
    rcases k.2 with ⟨rfl, _⟩ | ⟨g', cap', cur', rfl, _, kk, _⟩
    · simp [Value.ownBlock] at e
    · have : g = g' := by simpa [Value.ownBlock] using e
      subst this
      rw [hh] at kk
      cases kk
      exact hne rfl

theorem own_more {w : World} {b b' : Nat} {e : TypeId} {s n : Nat} {v : Value} {x : List Value} (h : w.ownsRow b e s v n x) (hb : b' ≤ b) : w.ownsRow b' e s v n x := by
  refine ⟨h.1, ?_⟩
  rcases h.2 with h0 | ⟨g, cap, cur, e1, h1, h2⟩
  · exact .inl h0
  · exact .inr ⟨g, cap, cur, e1, by omega, h2⟩

theorem tens_step (D : List Nat) (ch X : Nat) (h : dval D + 10 ^ D.length * ch = X) : dval (D ++ [ch % 10]) + 10 ^ (D ++ [ch % 10]).length * (ch / 10) = X := by
  rw [dval_snoc, List.length_append, List.length_cons, List.length_nil, Nat.pow_succ, Nat.mul_assoc, Nat.add_assoc, ← Nat.mul_add, ← h]
  congr 2
  omega

theorem trim_own {w : World} {base k cr : Nat} {A : Option Addr} {Q : List Nat} (own : w.ownsRow base 22 1 (.slice A k cr) k (vals Q)) (hQ : Hid (Q.length = k)) (hL : Limbs Q) (hk : k ≤ 70368744177664) :
    Calls Try.prog 73 #[.slice A k cr] w fun e w' => e = .returned (.slice A (digs (val Q)).length cr) ∧ w = w' := by
  have h := hQ.out
  subst h
  refine (trim_any Q A cr w (own_cap own).1 (by omega) hL (at_own own)).mono ?_
  rintro e w' ⟨rfl, rfl⟩
  exact ⟨by rw [cutLen_digs hL], rfl⟩
theorem own_trimmed {w : World} {base k cr : Nat} {A : Option Addr} {Q : List Nat} (own : w.ownsRow base 22 1 (.slice A k cr) k (vals Q)) (hQ : Hid (Q.length = k)) (hL : Limbs Q) :
    w.ownsRow base 22 1 (.slice A (digs (val Q)).length cr) (digs (val Q)).length (vals (digs (val Q))) := by
  have h1 := cutLen_digs hL
  have h2 := cutLen_le Q Q.length
  have := own_take own (k := (digs (val Q)).length) (by rw [← h1, ← hQ.out]; exact h2)
  have e : vals (digs (val Q)) = (vals Q).take (digs (val Q)).length := by
    rw [← h1, ← cut_all hL]; unfold vals; rw [List.map_take]
  rw [e]; exact this

set_option maxRecDepth 100000 in
set_option maxHeartbeats 2000000 in
theorem digitsUpward_any (l : List Nat) (A : Option Addr) (n c : Nat) (w : World) (hs : Sl w (.slice A n c) l) (hn : Hid (l.length = n)) (hnorm : Norm l) (hl : n ≤ 4000) :
    Calls Try.prog 49 #[.slice A n c] w fun e w' => ∃ A' c', e = .returned (.slice A' (tens (val l)).length c') ∧ w'.ownsRow w.heap.size 5 1 (.slice A' (tens (val l)).length c') (tens (val l)).length (chars (tens (val l))) ∧ Below w.heap.size w w' := by
  obtain ⟨i0, hi, hz0, hz1, hz2⟩ := info_parts info5
  obtain ⟨N, hN⟩ : ∃ N, val l = N := ⟨_, rfl⟩
  have HN : Hid (l = digs N) := by show _ = _; rw [← hN, hnorm.2]
  rw [hN]
  have HK : Hid (Calls Try.prog 71 #[.slice A n c] w fun e w' => ∃ A' c', e = .returned (.slice A' n c') ∧ w'.ownsRow w.heap.size 22 1 (.slice A' n c') n (vals l) ∧ Below w.heap.size w w') := by
    have := clone_sl hs
    rwa [hn.out] at this
  clear hN hs
  go_enter Try.func49, Try.ntmps49
  go_wp2_with (go_at_call 71; refine HK.out.mono ?_; clear HK; rintro e w1 ⟨A1, c1, rfl, own1, hb1⟩)
  go_loopw [3, 4] (fun dv rv wr => ∃ (D : List Nat) (R : List Nat) (m : Nat) (Ad : Option Addr) (cd : Nat) (Ar : Option Addr) (cr : Nat), dv = .slice Ad D.length cd ∧ rv = .slice Ar R.length cr ∧ wr.ownsRow w.heap.size 5 1 (.slice Ad D.length cd) D.length (chars D) ∧ wr.ownsRow w.heap.size 22 1 (.slice Ar R.length cr) R.length (vals R) ∧ D.length + 9 * R.length ≤ 40000 ∧ Below w.heap.size w wr ∧ Hid (R = digs m ∧ Decs D ∧ dval D + 10 ^ D.length * m = N)) (fun _ rv _ => match rv with | .slice _ k _ => k | _ => 0)
  case atStart =>
    refine ⟨[], l, N, none, 0, A1, c1, rfl, by rw [hn.out], World.ownsRow_nil _ _ _ _, by rw [hn.out]; exact own1, ?_, hb1, HN.out, decs_nil, by simp [dval]⟩
    have := hn.out
    simp; omega
  case round =>
    obtain ⟨D, R, m, Ad, cd, Ar, cr, rfl, rfl, own5, own22, hlen, hbel, H⟩ := hrel
    by_cases hz : R.length = 0
    · have hm0 : m = 0 := digs_eq_nil.1 (by rw [← H.out.1]; exact List.eq_nil_of_length_eq_zero hz)
      have HV : Hid (dval D = N) := by have := H.out.2.2; rw [hm0, Nat.mul_zero, Nat.add_zero] at this; exact this
      have HDec := H.out.2.1
      have hDl : D.length ≤ 40000 := by omega
      clear hm0
      go_wp2
      go_loopw [3] (fun dv wx => ∃ k : Nat, k ≤ D.length ∧ dv = .slice Ad k cd ∧ wr = wx ∧ Hid (dval (D.take k) = N)) (fun dv _ => match dv with | .slice _ k _ => k | _ => 0)
      case atStart => exact ⟨D.length, Nat.le_refl _, rfl, rfl, by show _ = _; rw [List.take_length]; exact HV.out⟩
      case round =>
        obtain ⟨k, hk, rfl, rfl, HT⟩ := hrel
        cases k with
        | zero =>
          have hN0 : N = 0 := by have := HT.out; simpa [dval] using this.symm
          have HN0 : Hid (N = 0) := hN0
          clear hN0
          go_wp2
          go_ret
          have e1 : tens N = [0] := by unfold tens; rw [if_pos HN0.out]
          rw [e1]
          refine ⟨some ⟨wr.heap.size, 0, none⟩, 1, rfl, ?_, hbel.alloc hbel.size _⟩
          exact World.ownsRow_lit wr #[.int .u8 48] 1 hbel.size (by unfold maxLen; omega) rfl
        | succ t =>
          obtain ⟨g, rfl, hg1, hg2⟩ := own_addr own5 (by omega)
          have hcell := own5.cellAt t (by omega)
          have hx : wr.cell? ⟨g, t, none⟩ = some (.int .u8 (48 + (nth D t : Int))) := by
            rw [hcell]
            unfold chars nth
            simp [List.getD_eq_getElem?_getD, show t < D.length from hk]
          have h10 := nth_lt10 HDec t hk
          have hcd := (own_cap own5).1
          have hti : (t : Int) < (t : Int) + 1 := by omega
          clear hcell
          by_cases h0 : nth D t = 0
          · rw [h0] at hx
            have HT2 : Hid (dval (D.take t) = N) := by
              show _ = _
              rw [← HT.out, take_snoc_getD D hk, h0, dval_snoc_zero]
            clear h0 h10
            go_wp2
            go_roundw
            case rel => exact ⟨t, by omega, by simp, by trivial, HT2⟩
            case measure => simp
          · have hne : ((48 + (nth D t : Int)) == 48) = false := by simp; omega
            have hnz : D.take (t + 1) = ddigs N := by
              rw [← HT.out, take_snoc_getD D hk]
              exact (dnorm_snoc (decs_take HDec t) h10 h0).2.symm
            have hN0 : N ≠ 0 := by
              intro e
              rw [e, ddigs_zero, take_snoc_getD D hk] at hnz
              simp at hnz
            have HZ : Hid (D.take (t + 1) = tens N) := by show _ = _; rw [hnz]; unfold tens; rw [if_neg hN0]
            have ht1 : (((t : Int) + 1) == 0) = false := by simp; omega
            clear hnz hN0
            go_wp2
            go_ret
            have e1 : (tens N).length = t + 1 := by rw [← HZ.out, List.length_take]; omega
            rw [e1]
            have e2 : chars (tens N) = (chars D).take (t + 1) := by rw [← HZ.out]; unfold chars; rw [List.map_take]
            rw [e2]
            exact ⟨some ⟨g, 0, none⟩, cd, rfl, own_take own5 hk, hbel⟩
    · obtain ⟨g, rfl, hg1, hg2⟩ := own_addr own22 (by omega)
      obtain ⟨k, hk⟩ : ∃ k, R.length = k := ⟨_, rfl⟩
      have hkR : Hid (R.length = k) := hk
      rw [hk] at own22 hlen hz ⊢
      clear hk
      have hR : Limbs R := by rw [H.out.1]; exact limbs_digs _
      have HD : Hid (Calls Try.prog 72 #[.slice (some ⟨g, 0, none⟩) k cr, .int .i64 1000000000] wr fun e w' => ∃ (Q : List Nat) (r : Nat), e = .returned (.int .i64 r) ∧ Short R 1000000000 0 Q r ∧ w'.ownsRow w.heap.size 22 1 (.slice (some ⟨g, 0, none⟩) k cr) k (vals Q) ∧ wr.grownBy w' (some g)) :=
        divideShort_any w.heap.size g k cr 1000000000 R wr hkR hR (by omega) (by omega) (by omega) own22 hg2
      have hk0 : 0 < k := by omega
      have n5 : (Value.slice Ad D.length cd).ownBlock = none ∨ (Value.slice Ad D.length cd).ownBlock ≠ some g := own_ne own5 own22 (by decide)
      go_wp2_with (first | (go_at_call 72; refine HD.out.mono ?_; rintro e w2 ⟨Q, r, rfl, HSh, ownQ, hgr⟩; have hQ : Hid (Q.length = k) := (by have := HSh.len; rw [Nat.add_zero, hkR.out] at this; exact this); have own5b := own5.kept hgr n5; have hbel2 := hbel.grown hgr hbel.size (fun k e => by injection e with e1; omega)) | (go_at_call 73; refine (trim_own ownQ hQ HSh.limbs (by omega)).mono ?_; rintro e w2' ⟨rfl, rfl⟩))
      have ownT := own_trimmed ownQ hQ HSh.limbs
      have hf := short_final HSh
      have hmR : val R = m := by rw [H.out.1, val_digs]
      rw [hmR] at hf
      have hr9 := HSh.rest
      have HF : Hid (val Q = m / 1000000000 ∧ r = m % 1000000000) := hf
      have hlt : (digs (val Q)).length + 1 ≤ k := by
        rw [hf.1]
        have h1 : (digs m).length = k := by rw [← H.out.1]; exact hkR.out
        have hm0 : m ≠ 0 := by intro e; rw [e, digs_zero] at h1; simp at h1; omega
        have h2 := digs_pos hm0
        have h3 : (digs (m / 65536)).length + 1 = k := by rw [← h1, h2]; simp
        have h4 : (digs (m / 1000000000)).length ≤ (digs (m / 65536)).length := digs_length (Nat.lt_of_le_of_lt (Nat.div_le_div_left (by omega) (by omega)) (lt_of_digs_length (Nat.le_refl _)))
        omega
      clear hf hmR HD own22 ownQ own5 HSh hgr
      go_loopw [3, 5, 15] (fun dv cv jv wr => ∃ (D' : List Nat) (ch j : Nat) (Ad' : Option Addr) (cd' : Nat), dv = .slice Ad' D'.length cd' ∧ cv = .int .i64 ch ∧ jv = .int .i64 j ∧ j ≤ 9 ∧ ch < 1000000000 ∧ Hid (D'.length = D.length + j) ∧ wr.ownsRow w.heap.size 5 1 (.slice Ad' D'.length cd') D'.length (chars D') ∧ wr.ownsRow w.heap.size 22 1 (.slice (some ⟨g, 0, none⟩) (digs (val Q)).length cr) (digs (val Q)).length (vals (digs (val Q))) ∧ Below w.heap.size w wr ∧ Hid (Decs D' ∧ ch < 10 ^ (9 - j) ∧ dval D' + 10 ^ D'.length * ch = dval D + 10 ^ D.length * r)) (fun _ _ jv _ => 9 - (intOf jv).toNat)
      case atStart => exact ⟨D, r, 0, Ad, cd, rfl, rfl, rfl, by omega, hr9, (by first | rfl | (show True; trivial)), own5b, ownT, hbel2, H.out.2.1, by simpa using hr9, rfl⟩
      case round =>
        obtain ⟨D', ch, j, Ad', cd', rfl, rfl, rfl, hj, hch, hD', o5, o22, hbel3, HJ⟩ := hrel
        have hD2 : D'.length ≤ 40000 := by have := hD'.out; omega
        by_cases hj9 : j < 9
        · go_wp2_with (at_builtin; refine wpList_append_own _ rfl _ _ 48 rfl w.heap.size 5 i0 (.int .u8 0) 1 1 Try.underlying48 hi hz0 hz1 hz2 rfl (by decide) _ _ _ rfl (o5.alloc _) ⟨wr.heap.size, 0, none⟩ 1 1 [.int .u8 (48 + (ch : Int) % 10)] rfl rfl ?c1 ?c2 ?c3 ?c4 ?c5 ?_)
          case c1 => exact cell_one_new _ _ _
          case c2 => intro u hu; simp at hu; subst hu; rfl
          case c3 => unfold maxLen; omega
          case c4 => omega
          case c5 => have := hbel3.size; simp; omega
          intro v' w4 hown' hgrow _
          obtain ⟨g', cap', rfl⟩ := ownsRow_succ hown'
          have o22b := (o22.alloc (.cells #[.int .u8 (48 + (ch : Int) % 10)] 5)).kept hgrow (own_ne o22 o5 (by decide))
          have hb4 := (hbel3.alloc hbel3.size (.cells #[.int .u8 (48 + (ch : Int) % 10)] 5)).grown hgrow (by have := hbel3.size; simp; omega) (fun k hk => (o5.lt k hk).1)
          have o5b : w4.ownsRow w.heap.size 5 1 (.slice (some ⟨g', 0, none⟩) (D' ++ [ch % 10]).length cap') (D' ++ [ch % 10]).length (chars (D' ++ [ch % 10])) := by
            rw [chars_snoc, List.length_append, show ((ch % 10 : Nat) : Int) = (ch : Int) % 10 from by omega]; exact hown'
          have HJ2 : Hid (Decs (D' ++ [ch % 10]) ∧ ch / 10 < 10 ^ (9 - (j + 1)) ∧ dval (D' ++ [ch % 10]) + 10 ^ (D' ++ [ch % 10]).length * (ch / 10) = dval D + 10 ^ D.length * r) := by
            refine ⟨decs_append.2 ⟨HJ.out.1, by intro x hx; simp at hx; omega⟩, ?_, tens_step D' ch _ HJ.out.2.2⟩
            rw [Nat.div_lt_iff_lt_mul (by omega), ← Nat.pow_succ, show (9 - (j + 1)).succ = 9 - j from by omega]
            exact HJ.out.2.1
          clear hown' hgrow o5 o22
          go_wp2
          go_roundw
          case rel => exact ⟨D' ++ [ch % 10], ch / 10, j + 1, some ⟨g', 0, none⟩, cap', by simp, by go_num, by go_num, by omega, by omega, (by show _ = _; rw [List.length_append, hD'.out]; simp; omega), o5b, o22b, hb4, HJ2⟩
          case measure => simp [intOf]; omega
        · obtain rfl : j = 9 := by omega
          have hch0 : ch = 0 := by have := HJ.out.2.1; simp at this; exact this
          have HE : Hid (dval D' + 10 ^ D'.length * (m / 1000000000) = N) := by
            show _ = _
            have h1 := HJ.out.2.2
            rw [hch0, Nat.mul_zero, Nat.add_zero] at h1
            rw [h1, hD'.out, HF.out.2, Nat.pow_add, ← H.out.2.2]
            have h2 := Nat.div_add_mod m 1000000000
            generalize m / 1000000000 = a at *
            generalize m % 1000000000 = b at *
            rw [← h2]
            simp only [show (10 : Nat) ^ 9 = 1000000000 from rfl]
            grind
          have HR : Hid (digs (val Q) = digs (m / 1000000000)) := by show _ = _; rw [HF.out.1]
          have hQm := HF.out.1
          have hD3 : D'.length ≤ D.length + 9 := by have := hD'.out; omega
          subst hch0
          go_wp2
          go_roundw
          case rel => exact ⟨D', digs (val Q), m / 1000000000, Ad', cd', some ⟨g, 0, none⟩, cr, rfl, rfl, o5, o22, by omega, hbel3, HR.out, HJ.out.1, HE.out⟩
          case measure => simp; omega
end Go.Proofs.Ytgnidjhfiagfnaa
