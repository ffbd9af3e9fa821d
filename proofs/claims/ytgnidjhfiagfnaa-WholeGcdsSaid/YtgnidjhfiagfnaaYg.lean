/- The long branch of divide. Conditions: the limbs are in memory, normal, and not too many. -/
import Derived.Test.YtgnidjhfiagfnaaYi
import Derived.Test.YtgnidjhfiagfnaaShelf
import Derived.Lib.ItoaNum
namespace Go.Proofs.Ytgnidjhfiagfnaa
open Go.RowKit
attribute [local go_sem] Oper.semAt_some

theorem wpListIn_make_all {F : Fence} {n : Nat} {P : Program} (w : World) {ops : Array Oper} {rest : List Oper} {o : Oper} {a : Act} {Q : Exit → Act → World → Prop}
    (hg : o.guard = none) (l c : Operand) (t : TypeId) (hop : o.op = Op.makeSlice t l c)
    (base : Nat) (e : TypeId) (i : TypeInfo) (z : Value) (size : Nat) (h1 : P.underlying t = some (.slice e)) (h2 : P.info? e = some i) (h3 : i.zero = some z) (h4 : i.size = size)
    (kl kc : IntKind) (L C : Int) (N : Nat) (hl : a.eval l = .int kl L) (hc : a.eval c = .int kc C) (hL : L = (N : Int)) (hC : C = (N : Int)) (b2 : i.bytes * N ≤ 281474976710656) (b3 : N ≤ maxLen) (b4 : base ≤ w.heap.size)
    (hK : ∀ w', w'.ownsRow base e size (.slice (some ⟨w.heap.size, 0, none⟩) N N) N (madeCells z.cells (N * size)).toList → w.grownBy w' none → wpListIn F n P ops Q rest (a.put o.dst (.slice (some ⟨w.heap.size, 0, none⟩) N N)) w') :
    wpListIn F n P ops Q (o :: rest) a w := by
  refine wpListIn_plain hg fun K hK' => ?_
  obtain ⟨w', hrun, r1, r2⟩ := run_make_full (P := P) w base t e i z size h1 h2 h3 h4 kl kc N b2 b3 b4
  subst hL
  subst hC
  unfold Oper.wpIn
  refine ⟨by simp [Oper.about, hop], ?_⟩
  rw [Oper.semAt_plain F _ _ (by rw [hop]; intro c hc'; cases hc')]
  simp [execOp, hop, hl, hc, hrun, Result.andThen]
  unfold Oper.uponIn
  exact hK' _ _ (hK w' r1 r2)
theorem lead_bits {t : Nat} (h0 : 0 < t) (h1 : t < 65536) : ∃ s : Nat, s ≤ 15 ∧ (16 - (Lib.bitLen t : Int)) = (s : Int) ∧ 32768 ≤ t * 2 ^ s ∧ (t + 1) * 2 ^ s ≤ 65536 := by
  have hb := Lib.bitLenAux_bounds 64 t (by omega) (by omega)
  have hl := Lib.bitLen_le t 16 (by omega) (by omega)
  obtain ⟨b, hbl⟩ : ∃ b, Lib.bitLen t = b := ⟨_, rfl⟩
  have e : Lib.bitLenAux 64 t = b := hbl
  rw [e] at hb
  rw [hbl] at hl ⊢
  refine ⟨16 - b, by omega, by omega, ?_, ?_⟩
  · have h2 : 2 ^ (b - 1) * 2 ^ (16 - b) = 32768 := by rw [← Nat.pow_add, show b - 1 + (16 - b) = 15 by omega]
    have := Nat.mul_le_mul_right (2 ^ (16 - b)) hb.2.1
    omega
  · have h2 : 2 ^ b * 2 ^ (16 - b) = 65536 := by rw [← Nat.pow_add, show b + (16 - b) = 16 by omega]
    have := Nat.mul_le_mul_right (2 ^ (16 - b)) (show t + 1 ≤ 2 ^ b from hb.2.2)
    omega

theorem own_below {w w' : World} {base e size n : Nat} {v : Value} {xs : List Value} (h : w.ownsRow base e size v n xs) (hb : Below w.heap.size w w') : w'.ownsRow base e size v n xs :=
  h.kept (row := none) ⟨hb.os, hb.tape, hb.output, hb.size, fun k hk _ => hb.block k hk⟩ (by
    rcases h.2 with ⟨h1, _⟩ | ⟨g, cap, cur, h1, _⟩
    · left; rw [h1]; rfl
    · right; rw [h1]; intro e; cases e)

/-- Between two digits of divide: the rows of rest, quotient and divisor, and the variables that hold them. -/
def DivI (w : World) (ga gq gd hr hd hk na nq p : Nat) (ya yb : List Nat) (k : Nat) (W : World) : Prop := ∃ ys Q : List Nat, Hid (DivInv ya (yb.take (p + 2)) nq k ys Q) ∧
  W.ownsRow ga 22 1 (.slice (some ⟨ga, 0, none⟩) (na + 1 : Nat) (na + 1 : Nat)) (na + 1) (vals ys) ∧
  W.ownsRow gq 22 1 (.slice (some ⟨gq, 0, none⟩) nq nq) nq (vals (List.replicate k 0 ++ Q)) ∧
  W.ownsRow gd 22 1 (.slice (some ⟨gd, 0, none⟩) (p + 2 + 1 : Nat) (p + 2 + 1 : Nat)) (p + 2 + 1) (vals yb) ∧
  Blk W w.heap.size 24 #[.slice (some ⟨gq, 0, none⟩) nq nq] ∧ Blk W hr 24 #[.slice (some ⟨ga, 0, none⟩) (na + 1 : Nat) (na + 1 : Nat)] ∧
  Blk W hd 24 #[.slice (some ⟨gd, 0, none⟩) (p + 2 : Nat) (p + 2 + 1 : Nat)] ∧ Blk W hk 24 #[.slice (some ⟨gq, 0, none⟩) nq nq] ∧ Below w.heap.size w W

set_option maxRecDepth 100000 in
set_option maxHeartbeats 2000000 in
theorem divide_long (la lb : List Nat) (A : Option Addr) (na p ca bB oB cb : Nat) (w : World) (hsa : Sl w (.slice A na ca) la) (hsb : Sl w (.slice (some ⟨bB, oB, none⟩) (p + 2 : Nat) cb) lb) (hna : Hid (la.length = na)) (hnb : Hid (lb.length = p + 2)) (ha : Norm la) (hb : Norm lb) (hla : na ≤ 4000) (hlb : p + 2 ≤ 4000) (hle : val lb ≤ val la)
    (xB : w.cell? ⟨bB, oB + (p + 1), none⟩ = some (.int .u16 (nth lb (p + 1)))) (hbl : bB < w.heap.size) :
    Calls Try.prog 58 #[.slice A na ca, .slice (some ⟨bB, oB, none⟩) (p + 2 : Nat) cb] w fun e w' => ∃ q r, e = .returned (.tuple #[q, r]) ∧ Sl w' q (digs (val la / val lb)) ∧ Sl w' r (digs (val la % val lb)) ∧ Below w.heap.size w w' := by
  have hmx : Try.prog.follows .mixedOrders = true := by kernel_rfl
  obtain ⟨W0, hW0⟩ : ∃ W0, w.alloc (.cells #[.slice none 0 0] 24) = W0 := ⟨_, rfl⟩
  have b0 : Blk W0 w.heap.size 24 #[.slice none 0 0] := by rw [← hW0]; exact Blk.new w _ _
  have bw : Below w.heap.size w W0 := by rw [← hW0]; exact (by repeat (first | exact Below.refl _ _ | assumption | refine Below.alloc ?_ (by first | (simp; done) | (simp; omega) | omega) _ | refine Below.setCell ?_ (by first | (simp; done) | (simp; omega) | omega) _ | refine Below.drew ?_))
  have HW : Hid (w.alloc (.cells #[.slice none 0 0] 24) = W0) := hW0
  clear hW0
  have s0 := hsa.below bw
  have t0 := hsb.below bw
  have hcl := cmpL_ge ha hb hle
  have HC : Hid (Calls Try.prog 62 #[.slice A na ca, .slice (some ⟨bB, oB, none⟩) (p + 2 : Nat) cb] W0 fun e w' => e = .returned (.int .i64 (cmpL la lb)) ∧ Below W0.heap.size W0 w') := compare_sl s0 t0 (by have := hna.out; omega) (by rw [hnb.out]; omega)
  obtain ⟨cl, hcl0⟩ : ∃ cl, cmpL la lb = cl := ⟨_, rfl⟩
  rw [hcl0] at HC hcl
  have hcl1 : 0 ≤ cl := by omega
  clear hcl0 hcl hsa hsb
  have HLA : Hid (Norm la ∧ Norm lb) := ⟨ha, hb⟩
  clear ha hb
  obtain ⟨tp, htp⟩ : ∃ tp, nth lb (p + 1) = tp := ⟨_, rfl⟩
  have htp1 := nth_lt HLA.out.2.1 (p + 1)
  have htp0 := norm_last HLA.out.2 (by intro e; have := hnb.out; rw [e] at this; simp at this)
  have htp2 : nth lb (p + 1) ≠ 0 := by
    have e : lb.length - 1 = p + 1 := by have := hnb.out; omega
    rw [e] at htp0
    exact htp0
  rw [htp] at htp1 htp2 xB
  obtain ⟨s, hs, hs1, hs2, hs3⟩ := lead_bits (Nat.pos_of_ne_zero htp2) htp1
  have HZ : Hid (∀ W, Calls Try.prog 78 #[.int .u16 tp] W fun e w' => e = .returned (.int .i64 s) ∧ W = w') := fun W => by
    refine (Try.bits_LeadingZeros16 tp W (by omega) (by omega)).mono ?_
    rintro e w' ⟨rfl, rfl⟩
    exact ⟨by rw [← hs1]; rfl, rfl⟩
  have HTP : Hid (nth lb (p + 1) = tp ∧ 32768 ≤ tp * 2 ^ s ∧ (tp + 1) * 2 ^ s ≤ 65536) := ⟨htp, hs2, hs3⟩
  clear htp htp0 htp2 hs1 hs2 hs3
  refine (callsIn_wide (n := 9)).1 ?_
  refine callsIn_of_wp_marks Try.func58 rfl trivial ?_ rfl
  simp only [Try.ntmps58, List.size_toArray, List.length_cons, List.length_nil, Nat.reduceAdd, Nat.reduceSub, Array.replicate_succ, Array.replicate_zero, List.push_toArray, List.append_toArray, List.nil_append, List.cons_append]
  gi_wp2_with (first
    | (rw [HW.out]; refine ⟨trivial, ?_⟩; gi_at_call 62; refine (callsIn_wide.2 HC.out).mono ?_; clear HC; rintro e w1 ⟨rfl, hb1⟩; have b1 := b0.below hb1 b0.lt; have bw1 := bw.trans (hb1.mono bw.size); have s1 := s0.below hb1; have t1 := t0.below hb1; have xB1 := (bw1.cell (p := ⟨bB, oB + (p + 1), none⟩) hbl).trans xB; have hbl1 := Nat.lt_of_lt_of_le hbl bw1.size; clear xB s0 t0 b0 bw hb1 HW hbl)
    | (refine ⟨trivial, ?_⟩; gi_at_call 78; refine (callsIn_wide.2 (HZ.out _)).mono ?_; clear HZ; rintro e w' ⟨rfl, rfl⟩))
  refine ⟨trivial, ?_⟩
  refine (callsIn_wide.2 (shiftUp_any la A na ca s w1 s1 hna (by omega) hs)).mono ?_
  rintro e w2 ⟨ya, rfl, hUa, owna, hb2⟩
  obtain ⟨ga, hga⟩ : ∃ ga, w1.heap.size = ga := ⟨_, rfl⟩
  have t2 := (t1.below hb2)
  have b2 := b1.below hb2 b1.lt
  have bw2 := bw1.trans (hb2.mono bw1.size)
  have hga2 : ga < w2.heap.size := by
    rcases owna.2 with ⟨h1, h2⟩ | ⟨g, cap', cur, h1, h2, h3, _⟩
    · cases h1
    · injection h1 with a b c
      injection a with a
      injection a with a
      rw [← hga, a]
      exact (Array.getElem?_eq_some_iff.1 h3).1
  have hgw : w.heap.size < ga := by have := b1.lt; omega
  rw [hga] at owna ⊢
  clear hb2 s1 t1 b1 bw1 xB1 hbl1 hga
  have HUA : Hid (Up la s na na ya) := hUa
  clear hUa
  -- the variable rest
  obtain ⟨W2, hW2⟩ : ∃ W2, w2.alloc (.cells #[.slice (some ⟨ga, 0, none⟩) (na + 1 : Nat) (na + 1 : Nat)] 24) = W2 := ⟨_, rfl⟩
  have c2 : Blk W2 w2.heap.size 24 #[.slice (some ⟨ga, 0, none⟩) (na + 1 : Nat) (na + 1 : Nat)] := by rw [← hW2]; exact Blk.new _ _ _
  have hb3 : Below w2.heap.size w2 W2 := by rw [← hW2]; exact (Below.refl _ _).alloc (Nat.le_refl _) _
  have owna2 : W2.ownsRow ga 22 1 (.slice (some ⟨ga, 0, none⟩) (na + 1 : Nat) (na + 1 : Nat)) (na + 1) (vals ya) := by rw [← hW2]; exact owna.alloc _
  have t3 := t2.below hb3
  have b3 := b2.below hb3 b2.lt
  have bw3 := bw2.trans (hb3.mono bw2.size)
  have HW2 : Hid (w2.alloc (.cells #[.slice (some ⟨ga, 0, none⟩) (na + 1 : Nat) (na + 1 : Nat)] 24) = W2) := hW2
  obtain ⟨hr, hhr⟩ : ∃ hr, w2.heap.size = hr := ⟨_, rfl⟩
  rw [hhr] at c2 hga2 
  have HHR : Hid (w2.heap.size = hr) := hhr
  clear hW2 owna t2 b2 bw2 hb3 hhr
  gi_wp2
  rw [HW2.out, HHR.out]
  refine ⟨trivial, ?_⟩
  refine (callsIn_wide.2 (shiftUp_any lb (some ⟨bB, oB, none⟩) (p + 2) cb s W2 t3 hnb (by omega) hs)).mono ?_
  rintro e w4 ⟨yb, rfl, hUb, ownb, hb4⟩
  obtain ⟨gd, hgd⟩ : ∃ gd, W2.heap.size = gd := ⟨_, rfl⟩
  have c4 := c2.below hb4 c2.lt
  have b4 := b3.below hb4 b3.lt
  have owna4 := own_below owna2 hb4
  have bw4 := bw3.trans (hb4.mono bw3.size)
  have hgd4 : gd < w4.heap.size := by
    rcases ownb.2 with ⟨h1, h2⟩ | ⟨g, cap', cur, h1, h2, h3, _⟩
    · cases h1
    · injection h1 with a b c
      injection a with a
      injection a with a
      rw [← hgd, a]
      exact (Array.getElem?_eq_some_iff.1 h3).1
  have hrd : hr < gd := by have := c2.lt; omega
  rw [hgd] at ownb ⊢
  have HUB : Hid (Up lb s (p + 2) (p + 2) yb) := hUb
  clear hb4 c2 b3 t3 owna2 bw3 hgd hUb HW2 HHR
  obtain ⟨hd, hhd⟩ : ∃ hd, w4.heap.size = hd := ⟨_, rfl⟩
  have HHD : Hid (w4.heap.size = hd) := hhd
  obtain ⟨W4, hW4⟩ : ∃ W4, w4.alloc (.cells #[.slice (some ⟨gd, 0, none⟩) (p + 2 : Nat) (p + 2 + 1 : Nat)] 24) = W4 := ⟨_, rfl⟩
  have e5 : Blk W4 hd 24 #[.slice (some ⟨gd, 0, none⟩) (p + 2 : Nat) (p + 2 + 1 : Nat)] := by rw [← hW4, ← hhd]; exact Blk.new _ _ _
  have hb5 : Below w4.heap.size w4 W4 := by rw [← hW4]; exact (Below.refl _ _).alloc (Nat.le_refl _) _
  have c5 := c4.below hb5 c4.lt
  have b5 := b4.below hb5 b4.lt
  have owna5 := own_below owna4 hb5
  have ownb5 := own_below ownb hb5
  have bw5 := bw4.trans (hb5.mono bw4.size)
  have HW4 : Hid (w4.alloc (.cells #[.slice (some ⟨gd, 0, none⟩) (p + 2 : Nat) (p + 2 + 1 : Nat)] 24) = W4) := hW4
  have hhd5 : hd < W4.heap.size := e5.lt
  rw [hhd] at hgd4
  clear hb5 c4 b4 owna4 ownb bw4 hW4 hhd
  have g1 := (e5.cell 0).trans (b := some (Value.slice (some ⟨gd, 0, none⟩) (p + 2 : Nat) (p + 2 + 1 : Nat))) rfl
  have g2 := (c5.cell 0).trans (b := some (Value.slice (some ⟨ga, 0, none⟩) (na + 1 : Nat) (na + 1 : Nat))) rfl
  have g3 := (b5.cell 0).trans (b := some (Value.slice none 0 0)) rfl
  have g3f := b5.frozen 0
  have g3l := b5.lt
  obtain ⟨i0, hi, hz0, hz1, hz2⟩ := info_parts info22
  obtain ⟨nq, hnq⟩ : ∃ nq : Nat, nq + (p + 2) = na + 1 := by
    have h1 := digs_mono hle
    rw [HLA.out.1.2, HLA.out.2.2, hna.out, hnb.out] at h1
    exact ⟨na + 1 - (p + 2), by omega⟩
  obtain ⟨gq, hgq⟩ : ∃ gq, W4.heap.size = gq := ⟨_, rfl⟩
  have HGQ : Hid (W4.heap.size = gq) := hgq
  clear hgq
  gi_wp2_with (first
    | (rw [HW4.out, HHD.out])
    | (gi_at_make; refine wpListIn_make_all _ rfl _ _ 24 rfl W4.heap.size 22 i0 (.int .u16 0) 1 Try.underlying24 hi hz0 hz1 .i64 .i64 _ _ nq rfl rfl (by omega) (by omega) (by rw [hz2]; omega) (by unfold maxLen; omega) (Nat.le_refl _) ?_; intro w5 hown5 hgrow5; rw [made_vals, HGQ.out] at hown5; rw [HGQ.out]; have e6 := e5.grown hgrow5 (by simp); have c6 := c5.grown hgrow5 (by simp); have b6 := b5.grown hgrow5 (by simp); have g5 := (b6.cell 0).trans (b := some (Value.slice none 0 0)) rfl; have g5f := b6.frozen 0; have g5l := b6.lt)
    | (refine ⟨trivial, ?_⟩; gi_at_call 77; refine (callsIn_wide.2 (downward_any _ _ _ _)).mono ?_; rintro e w' ⟨rfl, rfl⟩))
  have hnu := norm_up HUB.out hnb.out HLA.out.2.1 HTP.out.1 HTP.out.2.1 HTP.out.2.2
  have HNU : Hid ((yb.take (p + 2)).length = p + 2 ∧ val (yb.take (p + 2)) = val lb * 2 ^ s ∧ 32768 ≤ nth (yb.take (p + 2)) (p + 1) ∧ 65536 ^ (p + 1) * 32768 ≤ val (yb.take (p + 2))) := hnu
  have hgq5 : gq < w5.heap.size := by
    rcases hown5.2 with ⟨h1, h2⟩ | ⟨g, cap', cur, h1, h2, h3, _⟩
    · cases h1
    · injection h1 with a b c
      injection a with a
      injection a with a
      rw [a]
      exact (Array.getElem?_eq_some_iff.1 h3).1
  obtain ⟨hk, hhk⟩ : ∃ hk, w5.heap.size = hk := ⟨_, rfl⟩
  have HHK : Hid (w5.heap.size = hk) := hhk
  have hdq : hd < gq := by have := HGQ.out; omega
  have hqk : gq < hk := by omega
  have hI0 : DivI w ga gq gd hr hd hk na nq p ya yb nq ((w5.setCell ⟨w.heap.size, 0, none⟩ (.slice (some ⟨gq, 0, none⟩) nq nq)).alloc (.cells #[.slice (some ⟨gq, 0, none⟩) nq nq] 24)) := by
    have o1 := owna5.kept hgrow5 (.inr (by simp [Value.ownBlock]))
    have o2 := ownb5.kept hgrow5 (.inr (by simp [Value.ownBlock]))
    refine ⟨ya, [], DivInv.start HUA.out hna.out HLA.out.1.1 hs hnq HNU.out.2.2.2, ?_, ?_, ?_, ?_, ?_, ?_, ?_, ?_⟩
    · exact (ownsRow_setCell_other o1 (a := ⟨w.heap.size, 0, none⟩) (own_blk_ne o1 b6 (by decide)) _).alloc _
    · rw [List.append_nil]
      exact (ownsRow_setCell_other hown5 (a := ⟨w.heap.size, 0, none⟩) (own_blk_ne hown5 b6 (by decide)) _).alloc _
    · exact (ownsRow_setCell_other o2 (a := ⟨w.heap.size, 0, none⟩) (own_blk_ne o2 b6 (by decide)) _).alloc _
    · exact (b6.set_ 0 _).alloc _
    · exact (c6.far (p := ⟨w.heap.size, 0, none⟩) (by show hr ≠ w.heap.size; omega) _).alloc _
    · exact (e6.far (p := ⟨w.heap.size, 0, none⟩) (by show hd ≠ w.heap.size; omega) _).alloc _
    · have := Blk.new (w5.setCell ⟨w.heap.size, 0, none⟩ (.slice (some ⟨gq, 0, none⟩) nq nq)) 24 #[.slice (some ⟨gq, 0, none⟩) nq nq]
      have e : (w5.setCell ⟨w.heap.size, 0, none⟩ (.slice (some ⟨gq, 0, none⟩) nq nq)).heap.size = hk := by rw [← hhk]; simp [World.setCell]
      rwa [e] at this
    · exact ((bw5.grown hgrow5 bw5.size (by simp)).setCell (p := ⟨w.heap.size, 0, none⟩) (Nat.le_refl _) _).alloc (by simp [World.setCell]; omega) _
  have hsz : ((w5.setCell ⟨w.heap.size, 0, none⟩ (.slice (some ⟨gq, 0, none⟩) nq nq)).alloc (.cells #[.slice (some ⟨gq, 0, none⟩) nq nq] 24)).heap.size = hk + 1 := by rw [World.size_alloc]; simp [World.setCell]; exact hhk
  have hz : (w5.setCell ⟨w.heap.size, 0, none⟩ (.slice (some ⟨gq, 0, none⟩) nq nq)).heap.size = hk := by simp [World.setCell]; exact hhk
  obtain ⟨WL, hWL⟩ : ∃ WL, (w5.setCell ⟨w.heap.size, 0, none⟩ (.slice (some ⟨gq, 0, none⟩) nq nq)).alloc (.cells #[.slice (some ⟨gq, 0, none⟩) nq nq] 24) = WL := ⟨_, rfl⟩
  rw [hWL] at hI0 hsz ⊢
  clear hnu hown5 hgrow5 e6 c6 b6 g5 g5f g5l e5 c5 b5 owna5 ownb5 bw5 g1 g2 g3 g3f g3l hhd5 HW4 HHD hi hz0 hz1 hz2 hhk hWL hgq5
  have HSZ : Hid (WL.heap.size = hk + 1) := hsz
  clear hsz
  refine wpIn_down (by omega) hk gq 0 nq nq (some ⟨gq, 0, none⟩) ?hg (by omega) (fun _ => rfl) (fun _ => 0) (DivI w ga gq gd hr hd hk na nq p ya yb) (fun _ _ => False) ?hI (fun _ _ _ _ h _ _ => h) ?hIs ?hIc hI0 ?a1 ?assign ?body ?done ?stop
  case hg =>
    simp [Act.eval, hz]
    exact HHK.out
  case hI =>
    rintro k W W' row ⟨ys, Q, h1, h2, h3, h4, h5, h6, h7, h8, h9⟩ hg' hr'
    have hs9 := h9.size
    refine ⟨ys, Q, h1, own_own h2 hg' hr', own_own h3 hg' hr', own_own h4 hg' hr', h5.own hg' hr', h6.own hg' hr', h7.own hg' hr', h8.own hg' hr', h9.grown hg' hs9 (fun r e => ?_)⟩
    have := (hr' r e).1
    rw [HSZ.out] at this
    omega
  case hIs =>
    rintro k W ⟨ys, Q, h1, h2, h3, h4, h5, h6, h7, h8, h9⟩
    exact (h8.cell 0).trans rfl
  case hIc =>
    rintro k W hk ⟨ys, Q, h1, h2, h3, h4, h5, h6, h7, h8, h9⟩
    rw [Nat.zero_add, h3.cellAt k (by omega)]
    unfold vals
    simp [List.getElem?_append, List.getElem?_replicate]
  case assign =>
    intro l k W K hK
    gi_wp2
    exact hK
  case body =>
    rintro l k W hkn ⟨ys, Q, h1, h2, h3, h4, h5, h6, h7, h8, h9⟩
    have hysl : ys.length = na + 1 := by rw [h1.out.len, HUA.out.len]
    have hds : ∀ cr : Nat, Calls Try.prog 80 #[.slice (some ⟨ga, k, none⟩) (p + 3 : Nat) cr, .slice (some ⟨gd, 0, none⟩) (p + 2 : Nat) (p + 2 + 1 : Nat)] W.drew fun e w' => ∃ (q : Nat) (zs : List Nat), e = .returned (.int .u16 q) ∧ q < 65536 ∧ Stepped ys (yb.take (p + 2)) k (p + 2) q zs ∧ w'.ownsRow ga 22 1 (.slice (some ⟨ga, 0, none⟩) (na + 1 : Nat) (na + 1 : Nat)) (na + 1) (vals zs) ∧ W.drew.grownBy w' (some ga) := fun cr =>
      divideStep_any ga ga (na + 1) (na + 1) k p cr (p + 2 + 1) gd 0 ys (yb.take (p + 2)) W.drew ⟨hysl, h1.out.limbs, HNU.out.1, limbs_take HUB.out.limbs _⟩ (by omega) (by omega) h2
        (by have := h6.lt; show ga < W.heap.size; omega)
        (fun j hj => by
          have := h4.cellAt j (by omega)
          rw [vals_at (by rw [HUB.out.len]; omega)] at this
          rw [Nat.zero_add, nth_take _ hj]
          exact this) (by omega) (by have := h7.lt; show gd < W.heap.size; omega) HNU.out.2.2.1 (h1.out.seg (by omega) _)
    have HDS := hds
    have H2 : Hid (∀ cr : Nat, Calls Try.prog 80 #[.slice (some ⟨ga, k, none⟩) (p + 3 : Nat) cr, .slice (some ⟨gd, 0, none⟩) (p + 2 : Nat) (p + 2 + 1 : Nat)] W.drew fun e w' => ∃ (q : Nat) (zs : List Nat), e = .returned (.int .u16 q) ∧ q < 65536 ∧ Stepped ys (yb.take (p + 2)) k (p + 2) q zs ∧ w'.ownsRow ga 22 1 (.slice (some ⟨ga, 0, none⟩) (na + 1 : Nat) (na + 1 : Nat)) (na + 1) (vals zs) ∧ W.drew.grownBy w' (some ga)) := hds
    clear hds HDS
    have y1 := (h5.cell 0).trans (b := some (Value.slice (some ⟨gq, 0, none⟩) nq nq)) rfl
    have y2 := (h6.cell 0).trans (b := some (Value.slice (some ⟨ga, 0, none⟩) (na + 1 : Nat) (na + 1 : Nat))) rfl
    have y3 := (h7.cell 0).trans (b := some (Value.slice (some ⟨gd, 0, none⟩) (p + 2 : Nat) (p + 2 + 1 : Nat))) rfl
    have hki : (0 : Int) ≤ (k : Int) ∧ (k : Int) < (nq : Int) := by omega
    gi_wp2
    obtain ⟨K2, hK2⟩ : ∃ K2 : Nat, k + (p + 2) = K2 := ⟨_, rfl⟩
    obtain ⟨K3, hK3⟩ : ∃ K3 : Nat, K2 + 1 = K3 := ⟨_, rfl⟩
    have hw1 : IntKind.i64.wrap ((k : Int) + ((p : Int) + 2)) = (K2 : Int) := by rw [IntKind.wrap_i64]; omega
    have hw2 : IntKind.i64.wrap ((K2 : Int) + 1) = (K3 : Int) := by rw [IntKind.wrap_i64]; omega
    have hl1 : (K3 : Int) ≤ (na : Int) + 1 := by omega
    have hl2 : k ≤ K3 := by omega
    have hl3 : ¬ na + 1 = k := by omega
    have hl4 : K3 - k = p + 3 := by omega
    have hl5 : (0 : Int) ≤ (K3 : Int) := by omega
    have HKK : Hid (k + (p + 2) = K2 ∧ K2 + 1 = K3) := ⟨hK2, hK3⟩
    clear hK2 hK3
    refine region_round (S := fun w' => w'.cell? ⟨w.heap.size, 0, none⟩ = some (.slice (some ⟨gq, 0, none⟩) nq nq) ∧ w'.cell? ⟨hr, 0, none⟩ = some (.slice (some ⟨ga, 0, none⟩) (na + 1 : Nat) (na + 1 : Nat)) ∧ w'.cell? ⟨hd, 0, none⟩ = some (.slice (some ⟨gd, 0, none⟩) (p + 2 : Nat) (p + 2 + 1 : Nat))) (by kernel_rfl) (noDefer_spec (by kernel_rfl)) (fun ⟨_, _, h⟩ => h) ⟨y1, y2, y3⟩ (fun hH => ?_)
    refine wpAnyH_take (i := 0) (v := ?_) rfl (by kernel_rfl) (by kernel_rfl) (by kernel_rfl) (fun _ _ _ h => h) (Or.inl ⟨by rfl, ?_⟩) (by assumption) ?_
    rotate_left
    · intro w' hSw
      (try dsimp only at hSw)
      obtain ⟨z1, z2, z3⟩ := hSw
      go_simp
      try with_reducible rfl
    simp only [Act.put, List.setIfInBounds_toArray, List.set_cons_zero, List.set_cons_succ]
    refine wpAnyH_take (i := 1) (v := ?_) rfl (by kernel_rfl) (by kernel_rfl) (by kernel_rfl) (fun _ _ _ h => h) (Or.inl ⟨by rfl, ?_⟩) (by assumption) ?_
    rotate_left
    · intro w' hSw
      (try dsimp only at hSw)
      obtain ⟨z1, z2, z3⟩ := hSw
      go_simp
      try with_reducible rfl
    simp only [Act.put, List.setIfInBounds_toArray, List.set_cons_zero, List.set_cons_succ]
    refine wpAnyH_take (i := 2) (v := ?_) rfl (by kernel_rfl) (by kernel_rfl) (by kernel_rfl) (fun _ _ _ h => h) (Or.inl ⟨by rfl, ?_⟩) (by assumption) ?_
    rotate_left
    · intro w' hSw
      (try dsimp only at hSw)
      obtain ⟨z1, z2, z3⟩ := hSw
      go_simp
      try with_reducible rfl
    simp only [Act.put, List.setIfInBounds_toArray, List.set_cons_zero, List.set_cons_succ]
    refine wpAnyH_take (i := 3) (v := ?_) rfl (by kernel_rfl) (by kernel_rfl) (by kernel_rfl) (fun _ _ _ h => h) (Or.inl ⟨by rfl, ?_⟩) (by assumption) ?_
    rotate_left
    · intro w' hSw
      (try dsimp only at hSw)
      obtain ⟨z1, z2, z3⟩ := hSw
      go_simp
      try with_reducible rfl
    simp only [Act.put, List.setIfInBounds_toArray, List.set_cons_zero, List.set_cons_succ]
    refine wpAnyH_take (i := 4) (v := ?_) rfl (by kernel_rfl) (by kernel_rfl) (by kernel_rfl) (fun _ _ _ h => h) (Or.inl ⟨by rfl, ?_⟩) (by assumption) ?_
    rotate_left
    · intro w' hSw
      (try dsimp only at hSw)
      obtain ⟨z1, z2, z3⟩ := hSw
      go_simp
      try with_reducible rfl
    simp only [Act.put, List.setIfInBounds_toArray, List.set_cons_zero, List.set_cons_succ]
    refine wpAnyH_take (i := 5) (v := ?_) rfl (by kernel_rfl) (by kernel_rfl) (by kernel_rfl) (fun _ _ _ h => h) (Or.inl ⟨by rfl, ?_⟩) (by assumption) ?_
    rotate_left
    · intro w' hSw
      (try dsimp only at hSw)
      obtain ⟨z1, z2, z3⟩ := hSw
      go_simp
      try with_reducible rfl
    simp only [Act.put, List.setIfInBounds_toArray, List.set_cons_zero, List.set_cons_succ]
    refine wpAnyH_take (i := 6) (v := ?_) rfl (by kernel_rfl) (by kernel_rfl) (by kernel_rfl) (fun _ _ _ h => h) (Or.inl ⟨by rfl, ?_⟩) (by assumption) ?_
    rotate_left
    · intro w' hSw
      (try dsimp only at hSw)
      obtain ⟨z1, z2, z3⟩ := hSw
      go_simp
      try with_reducible rfl
    simp only [Act.put, List.setIfInBounds_toArray, List.set_cons_zero, List.set_cons_succ]
    refine wpAnyH_take (i := 7) (v := ?_) rfl (by kernel_rfl) (by kernel_rfl) (by kernel_rfl) (fun _ _ _ h => h) (Or.inl ⟨by rfl, ?_⟩) (by assumption) ?_
    rotate_left
    · intro w' hSw
      (try dsimp only at hSw)
      obtain ⟨z1, z2, z3⟩ := hSw
      go_simp
      try with_reducible rfl
    simp only [Act.put, List.setIfInBounds_toArray, List.set_cons_zero, List.set_cons_succ]
    refine wpAnyH_take (i := 8) (v := ?_) rfl (by kernel_rfl) (by kernel_rfl) (by kernel_rfl) (fun _ _ _ h => h) (Or.inl ⟨by rfl, ?_⟩) (by assumption) ?_
    rotate_left
    · intro w' hSw
      (try dsimp only at hSw)
      obtain ⟨z1, z2, z3⟩ := hSw
      go_simp
      try with_reducible rfl
    simp only [Act.put, List.setIfInBounds_toArray, List.set_cons_zero, List.set_cons_succ]
    refine wpAnyH_take (i := 9) (v := ?_) rfl (by kernel_rfl) (by kernel_rfl) (by kernel_rfl) (fun _ _ _ h => h) (Or.inl ⟨by rfl, ?_⟩) (by assumption) ?_
    rotate_left
    · intro w' hSw
      (try dsimp only at hSw)
      obtain ⟨z1, z2, z3⟩ := hSw
      go_simp
      try with_reducible rfl
    simp only [Act.put, List.setIfInBounds_toArray, List.set_cons_zero, List.set_cons_succ]
    refine wpAnyH_take (i := 10) (v := ?_) rfl (by kernel_rfl) (by kernel_rfl) (by kernel_rfl) (fun _ _ _ h => h) (Or.inl ⟨by rfl, ?_⟩) (by assumption) ?_
    rotate_left
    · intro w' hSw
      (try dsimp only at hSw)
      obtain ⟨z1, z2, z3⟩ := hSw
      go_simp
      try with_reducible rfl
    simp only [Act.put, List.setIfInBounds_toArray, List.set_cons_zero, List.set_cons_succ]
    clear hw1 hw2 hl1 hl2 hl3 hl4 hl5 hH
    refine wpAnyH_ready (rs := [11]) (by kernel_rfl) (by simp) ?_
    refine AllReadyH.cons rfl (fun K hK => ?_) AllReadyH.nil
    go_simp
    refine (H2.out _).mono ?_
    rintro e w3 ⟨q, zs, rfl, hq, hst, own3, hgr⟩
    have hgr' : W.grownBy w3 (some ga) := ⟨hgr.os, hgr.tape, hgr.output, hgr.size, hgr.block⟩
    have k1 := hgr'.cell y1 (fun e => by injection e with e1; simp at e1; omega)
    have k2 := hgr'.cell y2 (fun e => by injection e with e1; simp at e1; omega)
    have k3 := hgr'.cell y3 (fun e => by injection e with e1; simp at e1; omega)
    refine hK.out _ _ ⟨k1, k2, k3⟩ (fun hH => ?_)
    (try simp only [Act.put, List.setIfInBounds_toArray, List.set_cons_zero, List.set_cons_succ])
    clear hK K
    have b5 := h5.grown hgr' (fun e => by injection e with e1; omega)
    have b6 := h6.grown hgr' (fun e => by injection e with e1; omega)
    have b7 := h7.grown hgr' (fun e => by injection e with e1; omega)
    have b8 := h8.grown hgr' (fun e => by injection e with e1; omega)
    have b9 := h9.grown hgr' h9.size (fun r e => by injection e with e1; omega)
    have o3 := h3.kept hgr' (.inr (by simp [Value.ownBlock]; omega))
    have o4 := h4.kept hgr' (.inr (by simp [Value.ownBlock]; omega))
    have hkw : KeepsOthers W w3 := KeepsOthers.of_grownBy hgr' (fun j o e ho => by
      cases e
      rcases h2.2 with ⟨h1, _⟩ | ⟨g, cap', cur, h1, _, h3, _⟩
      · cases h1
      · injection h1 with a b c
        injection a with a
        injection a with a
        subst a
        rw [h3] at ho
        cases ho
        rfl)
    have x4 : w3.cell? ⟨gq, k, none⟩ = some (.int .u16 0) := by
      rw [o3.cellAt k (by omega)]
      unfold vals
      simp [List.getElem?_append, List.getElem?_replicate]
    have f4 := o3.frozenAt k
    have HI : Hid (DivI w ga gq gd hr hd hk na nq p ya yb k (w3.setCell ⟨gq, k, none⟩ (.int .u16 (q : Int)))) := by
      have os := (o3.stored k (.int .u16 (q : Int))).1
      have ev : (vals (List.replicate (k + 1) 0 ++ Q)).set k (.int .u16 (q : Int)) = vals (List.replicate k 0 ++ (q :: Q)) := by
        rw [vals_set]
        congr 1
        rw [List.replicate_succ', List.append_assoc, List.set_append_right _ _ (by simp), List.length_replicate, Nat.sub_self]
        rfl
      rw [ev] at os
      refine ⟨zs, q :: Q, h1.out.step (by omega) HNU.out.1 (limbs_take HUB.out.limbs _) hq hst, ?_, os, ?_, ?_, ?_, ?_, ?_, ?_⟩
      · exact ownsRow_setCell_other own3 (a := ⟨gq, k, none⟩) (by simp [Value.ownBlock]; omega) _
      · exact ownsRow_setCell_other o4 (a := ⟨gq, k, none⟩) (by simp [Value.ownBlock]; omega) _
      · exact b5.far (p := ⟨gq, k, none⟩) (by show w.heap.size ≠ gq; omega) _
      · exact b6.far (p := ⟨gq, k, none⟩) (by show hr ≠ gq; omega) _
      · exact b7.far (p := ⟨gq, k, none⟩) (by show hd ≠ gq; omega) _
      · exact b8.far (p := ⟨gq, k, none⟩) (by show hk ≠ gq; omega) _
      · exact b9.setCell (p := ⟨gq, k, none⟩) (by show w.heap.size ≤ gq; omega) _
    have HKW : Hid (KeepsOthers W (w3.setCell ⟨gq, k, none⟩ (.int .u16 (q : Int)))) := hkw.trans (KeepsOthers.setCell _ _ _)
    clear h1 h2 h3 h4 h5 h6 h7 h8 h9 o3 o4 own3 b5 b6 b7 b8 b9 hgr hgr' hkw hst hysl y1 y2 y3
    refine wpAnyH_ready (rs := [12]) (by kernel_rfl) (by simp) ?_
    refine AllReadyH.cons rfl (fun K hK => ?_) AllReadyH.nil
    go_simp
    refine hK.out _ _ ⟨k1, k2, k3⟩ (fun hH => ?_)
    (try simp only [Act.put, List.setIfInBounds_toArray, List.set_cons_zero, List.set_cons_succ])
    clear hK K
    refine wpAnyH_ready (rs := [13]) (by kernel_rfl) (by simp) ?_
    refine AllReadyH.cons rfl (fun K hK => ?_) AllReadyH.nil
    go_simp
    refine hK.out _ _ ⟨?_, ?_, ?_⟩ (fun hH => ?_)
    · rw [World.cell?_setCell_far _ _ _ _ (by show gq ≠ w.heap.size; omega)]; exact k1
    · rw [World.cell?_setCell_far _ _ _ _ (by show gq ≠ hr; omega)]; exact k2
    · rw [World.cell?_setCell_far _ _ _ _ (by show gq ≠ hd; omega)]; exact k3
    refine wpAnyH_done (by kernel_rfl) ?_ _
    exact ⟨HKW.out.from _, HI.out⟩
  case done =>
    rintro D W hD ⟨ys, Q, h1, h2, h3, h4, h5, h6, h7, h8, h9⟩ hK
    have HK : Hid (W.heap[D]? = some (Obj.deferred (some []))) := hK
    have hD2 : hk + 1 ≤ D := by rw [HSZ.out] at hD; exact hD
    clear hK hD
    have y1 := (h5.cell 0).trans (b := some (Value.slice (some ⟨gq, 0, none⟩) nq nq)) rfl
    have y2 := (h6.cell 0).trans (b := some (Value.slice (some ⟨ga, 0, none⟩) (na + 1 : Nat) (na + 1 : Nat))) rfl
    have hql := h1.out.qlen
    have hyl : ys.length = na + 1 := by rw [h1.out.len, HUA.out.len]
    have h3' : W.ownsRow gq 22 1 (.slice (some ⟨gq, 0, none⟩) nq nq) nq (vals Q) := by simpa using h3
    have hva : val ya = val la * 2 ^ s := by
      have e := HUA.out.eq
      rwa [List.take_of_length_le (by rw [HUA.out.len]; exact Nat.le_refl _), List.take_of_length_le (by have := hna.out; omega)] at e
    have hdone := h1.out.done HNU.out.2.1 hva
    obtain ⟨m1, hm1⟩ : ∃ m, (digs (val Q)).length = m := ⟨_, rfl⟩
    obtain ⟨m2, hm2⟩ : ∃ m, (digs (val ys)).length = m := ⟨_, rfl⟩
    have HT1 : Hid (Calls Try.prog 73 #[.slice (some ⟨gq, 0, none⟩) nq nq] W.drew fun e w' => e = .returned (.slice (some ⟨gq, 0, none⟩) m1 nq) ∧ W.drew = w') := by
      rw [← hm1]
      exact trim_own (w := W.drew) h3' (show Hid (Q.length = nq) by show _ = _; omega) h1.out.qlimbs (by omega)
    have HT2 : Hid (Calls Try.prog 73 #[.slice (some ⟨ga, 0, none⟩) (na + 1 : Nat) (na + 1 : Nat)] W.drew fun e w' => e = .returned (.slice (some ⟨ga, 0, none⟩) m2 (na + 1 : Nat)) ∧ W.drew = w') := by
      rw [← hm2]
      exact trim_own (w := W.drew) h2 hyl h1.out.limbs (by omega)
    have hm2l : m2 ≤ na + 1 := by rw [← hm2, ← hyl]; exact digs_val_len h1.out.limbs
    have h2' := own_trimmed h2 hyl h1.out.limbs
    rw [hm2] at h2'
    have HSD : Hid (Calls Try.prog 81 #[.slice (some ⟨ga, 0, none⟩) m2 (na + 1 : Nat), .int .i64 s] W.drew fun e w' => ∃ (Z : List Nat) (up : Nat), e = .returned (.slice (some ⟨ga, 0, none⟩) (cutLen Z Z.length) (na + 1 : Nat)) ∧ Dn (digs (val ys)) s 0 Z up ∧ w'.ownsRow ga 22 1 (.slice (some ⟨ga, 0, none⟩) m2 (na + 1 : Nat)) m2 (vals Z) ∧ W.drew.grownBy w' (some ga)) :=
      shiftDown_any ga ga m2 (na + 1) s (digs (val ys)) W.drew hm2 (limbs_digs _) (by omega) hs h2' (by have := h6.lt; show ga < W.heap.size; omega)
    have HM : Hid ((digs (val Q)).length = m1 ∧ (digs (val ys)).length = m2) := ⟨hm1, hm2⟩
    have HD : Hid (val Q = val la / val lb ∧ val ys / 2 ^ s = val la % val lb) := hdone
    have HQL : Hid (Q.length = nq ∧ Limbs Q) := ⟨by omega, h1.out.qlimbs⟩
    have ngq : some (⟨w.heap.size, 0, none⟩ : Addr).block ≠ some ga := fun e => by injection e with e1; simp at e1; omega
    have ngr : some (⟨hr, 0, none⟩ : Addr).block ≠ some ga := fun e => by injection e with e1; simp at e1; omega
    have fq := h5.frozen 0
    have lq := h5.lt
    have ffq : ∀ w', W.drew.grownBy w' (some ga) → w'.frozen? ⟨w.heap.size, 0, none⟩ = false := fun w' hg => (h5.grown (w := W) ⟨hg.os, hg.tape, hg.output, hg.size, hg.block⟩ (fun e => by injection e with e1; omega)).frozen 0
    have FFQ : Hid (∀ w', W.drew.grownBy w' (some ga) → w'.frozen? ⟨w.heap.size, 0, none⟩ = false) := ffq
    clear hql hyl hva hdone hm1 hm2 h1 ffq
    gi_wp2
    refine wpIn_wide.2 (wp_region_noPanic ?_)
    go_region_with (first | (go_at_call 73; (with_reducible refine HT1.out.mono ?_); rintro e w' ⟨rfl, rfl⟩) | (go_at_call 73; (with_reducible refine HT2.out.mono ?_); rintro e w' ⟨rfl, rfl⟩) | (go_at_call 81; (with_reducible refine HSD.out.mono ?_); rintro e w3 ⟨Z, up, rfl, hdn, own3, hgr⟩; have ka := hgr.cell (cell_drew y1) ngq; have kb := hgr.cell (cell_drew y2) ngr; have kf := FFQ.out _ hgr))
    all_goals
      refine NoPanic.normal ?_
      dsimp only [Act.put]
      simp only [List.getElem_toArray, List.getElem_cons_zero, List.getElem_cons_succ, List.setIfInBounds_toArray, List.set_cons_zero, List.set_cons_succ]
      gi_wp2
      have hgr' : W.grownBy w3 (some ga) := ⟨hgr.os, hgr.tape, hgr.output, hgr.size, hgr.block⟩
      have hkw : KeepsOthers W (w3.setCell ⟨w.heap.size, 0, none⟩ (.slice (some ⟨gq, 0, none⟩) m1 nq)) := (KeepsOthers.of_grownBy hgr' (fun j o e ho => by
        cases e
        rcases h2.2 with ⟨h1, _⟩ | ⟨g, cap', cur, h1, _, h3, _⟩
        · cases h1
        · injection h1 with a b c
          injection a with a
          injection a with a
          subst a
          rw [h3] at ho
          cases ho
          rfl)).trans (KeepsOthers.setCell _ _ _)
      have HK5 := hkw.same D _ HK.out rfl
      have hnn : ∀ r, some D = some r → 0 ≤ r ∧ ∃ o : Obj, (w3.setCell ⟨w.heap.size, 0, none⟩ (.slice (some ⟨gq, 0, none⟩) m1 nq)).heap[r]? = some o ∧ o.isCells = false := fun r e => by
        cases e
        exact ⟨Nat.zero_le _, _, HK5, rfl⟩
      have d5 := h5.grown hgr' (fun e => by injection e with e1; omega)
      have oq6 := own_own (B := 0) (ownsRow_setCell_other (h3'.kept hgr' (.inr (by simp [Value.ownBlock]; omega))) (a := ⟨w.heap.size, 0, none⟩) (by simp [Value.ownBlock]; omega) (.slice (some ⟨gq, 0, none⟩) m1 nq)) (grownBy_putObj' _ D (.deferred none)) hnn
      have oz6 := own_own (B := 0) (ownsRow_setCell_other own3 (a := ⟨w.heap.size, 0, none⟩) (by simp [Value.ownBlock]; omega) (.slice (some ⟨gq, 0, none⟩) m1 nq)) (grownBy_putObj' _ D (.deferred none)) hnn
      have d6 := (d5.set_ 0 (.slice (some ⟨gq, 0, none⟩) m1 nq)).own (grownBy_putObj' _ D (.deferred none)) hnn
      have r0 := (d6.cell 0).trans (b := some (Value.slice (some ⟨gq, 0, none⟩) m1 nq)) rfl
      have hb6 : Below w.heap.size w ((w3.setCell ⟨w.heap.size, 0, none⟩ (.slice (some ⟨gq, 0, none⟩) m1 nq)).putObj D (.deferred none)) :=
        ((h9.grown hgr' h9.size (fun r e => by injection e with e1; omega)).setCell (p := ⟨w.heap.size, 0, none⟩) (Nat.le_refl _) _).grown (grownBy_putObj' _ D (.deferred none)) (by have := h9.size; have := hgr'.size; simp [World.setCell]; omega) (fun r e => by cases e; have := h8.lt; omega)
      have hzl : Z.length = m2 := by have := hdn.len; rw [HM.out.2] at this; omega
      have hzv : val Z = val la % val lb := by rw [← HD.out.2, hdn.eq, List.drop_zero, val_digs]
      have sq := own_trimmed oq6 HQL.out.1 HQL.out.2
      rw [HD.out.1] at sq
      have sz := own_trimmed oz6 hzl hdn.limbs
      rw [hzv] at sz
      have e1 : m1 = (digs (val la / val lb)).length := by rw [← HM.out.1, HD.out.1]
      have e2 : cutLen Z Z.length = (digs (val la % val lb)).length := by rw [cutLen_digs hdn.limbs, hzv]
      have l1 : (digs (val la / val lb)).length ≤ 70368744177664 := by
        have := digs_val_len HQL.out.2; rw [HD.out.1, HQL.out.1] at this; omega
      have l2 : (digs (val la % val lb)).length ≤ 70368744177664 := by
        have := digs_val_len hdn.limbs; rw [hzv, hzl] at this; omega
      refine ⟨by simp, .inl ⟨_, _, rfl, run_takeDeferred HK5, ?_⟩⟩
      refine ⟨.tuple #[.slice (some ⟨gq, 0, none⟩) m1 nq, .slice (some ⟨ga, 0, none⟩) (cutLen Z Z.length) (na + 1 : Nat)], by simp [results, Try.f58, Try.results58, go_sem, r0], _, _, rfl, ?_, ?_, hb6⟩
      · have := sl_own (limbs_digs _) l1 sq
        rwa [← e1] at this
      · have := sl_own (limbs_digs _) l2 sz
        rwa [← e2] at this
  case stop =>
    intro D W _ h _
    exact h.elim
end Go.Proofs.Ytgnidjhfiagfnaa
