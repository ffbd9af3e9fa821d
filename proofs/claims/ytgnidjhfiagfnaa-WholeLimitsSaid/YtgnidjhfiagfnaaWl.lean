/- Two valid numbers joined by an operation. Conditions: the operation's own contract. -/
import Derived.Test.YtgnidjhfiagfnaaWk
namespace Go.Proofs.Ytgnidjhfiagfnaa
open Go.RowKit

/-- What an operation on two numbers does, as a function value. -/
def OpZ (f : Nat) (x : Bool) (la : List Nat) (y : Bool) (lb : List Nat) (z : Int) : Prop :=
  ∀ (W : World) (va vb : Value), Wh W va x la → Wh W vb y lb → Calls Try.prog f #[va, vb] W fun e w' => ∃ v, e = .returned v ∧ WhZ w' v z ∧ Below W.heap.size W w'

theorem whz_len {w : World} {v : Value} {z : Int} (h : WhZ w v z) : ∃ (n : Nat) (A : Option Addr) (c : Nat), Hid ((digs z.natAbs).length = n) ∧ v = .agg #[.bool (decide (z < 0)), .slice A n c] ∧ Sl w (.slice A n c) (digs z.natAbs) := by
  obtain ⟨A, c, rfl, hs⟩ := h
  exact ⟨_, A, c, rfl, rfl, hs⟩

set_option maxRecDepth 100000 in
set_option maxHeartbeats 2000000 in
theorem join_ok (f M : Nat) (x y : Bool) (la lb : List Nat) (A B : Option Addr) (na ca nb cb : Nat) (z : Int) (w : World) (hf : ∀ args w, (callFunc f args).run Try.prog w = .ok (.enter f args) w) (hop : OpZ f x la y lb z) (hlen : (digs z.natAbs).length ≤ 1024)
    (hsa : Sl w (.slice A na ca) la) (hna : Hid (la.length = na)) (hsb : Sl w (.slice B nb cb) lb) (hnb : Hid (lb.length = nb)) (hM : Blk w M 26 #[.bool y, .slice B nb cb]) (hx : validB x la = true) (hy : validB y lb = true) :
    Calls Try.prog 38 #[.func (.func f) #[] #[], .agg #[.bool x, .slice A na ca], .slice (some ⟨M, 0, none⟩) 1 1] w fun e w' => ∃ v, e = .returned (.tuple #[v, .int .i64 0]) ∧ WhZ w' v z ∧ Below w.heap.size w w' := by
  obtain ⟨W0, hW0⟩ : ∃ W0, ((w.alloc (.cells #[.bool x, .slice A na ca] 26)).alloc (.cells #[.bool false, .slice none 0 0] 26)).alloc (.cells #[.bool x, .slice A na ca] 26) = W0 := ⟨_, rfl⟩
  have b0 : Blk W0 w.heap.size 26 #[.bool x, .slice A na ca] := by rw [← hW0]; exact ((Blk.new w _ _).alloc _).alloc _
  have b1 : Blk W0 (w.heap.size + 1) 26 #[.bool false, .slice none 0 0] := by
    rw [← hW0]
    have := (Blk.new (w.alloc (.cells #[.bool x, .slice A na ca] 26)) 26 #[.bool false, .slice none 0 0]).alloc (.cells #[.bool x, .slice A na ca] 26)
    rwa [World.size_alloc] at this
  have b2 : Blk W0 (w.heap.size + 1 + 1) 26 #[.bool x, .slice A na ca] := by
    rw [← hW0]
    have := (Blk.new ((w.alloc (.cells #[.bool x, .slice A na ca] 26)).alloc (.cells #[.bool false, .slice none 0 0] 26)) 26 #[.bool x, .slice A na ca])
    rwa [World.size_alloc, World.size_alloc] at this
  have bw : Below w.heap.size w W0 := by rw [← hW0]; exact (by repeat (first | exact Below.refl _ _ | assumption | refine Below.alloc ?_ (by first | (simp; done) | (simp; omega) | omega) _ | refine Below.setCell ?_ (by first | (simp; done) | (simp; omega) | omega) _ | refine Below.drew ?_))
  have HW : Hid (((w.alloc (.cells #[.bool x, .slice A na ca] 26)).alloc (.cells #[.bool false, .slice none 0 0] 26)).alloc (.cells #[.bool x, .slice A na ca] 26) = W0) := hW0
  clear hW0
  have h1 := allValid1 (hsa.below bw) hna b2
  have l0 := b0.lt
  have l1 := b1.lt
  rw [hx] at h1
  have H1 : Hid (Calls Try.prog 48 #[.slice (some ⟨w.heap.size + 1 + 1, 0, none⟩) 1 1] W0 fun e w' => e = .returned (.bool true) ∧ Below W0.heap.size W0 w') := h1
  have H2 : Hid (∀ w1, Below W0.heap.size W0 w1 → Calls Try.prog 48 #[.slice (some ⟨M, 0, none⟩) 1 1] w1 fun e w' => e = .returned (.bool true) ∧ Below w1.heap.size w1 w') := by
    intro w1 hb
    have := allValid1 ((hsb.below bw).below hb) hnb ((hM.below bw hM.lt).below hb (Nat.lt_of_lt_of_le hM.lt bw.size))
    rwa [hy] at this
  have HL : Hid ((digs z.natAbs).length ≤ 1024) := hlen
  clear h1 hx hy hlen
  go_enter Try.func38, Try.ntmps38
  go_wp2_with (first | (rw [HW.out]; go_at_call 48; refine H1.out.mono ?_; clear H1; rintro e w1 ⟨rfl, hb1⟩) | (go_at_call 48; refine (H2.out _ hb1).mono ?_; rintro e w2 ⟨rfl, hb2⟩; have e0 := (b0.below hb1 l0).below hb2 (Nat.lt_of_lt_of_le l0 hb1.size); have g1 := (e0.cell 0).trans (b := some (Value.bool x)) rfl; have g2 := (e0.cell 1).trans (b := some (Value.slice A na ca)) rfl; have l2 := e0.lt))
  have e1 := (b1.below hb1 l1).below hb2 (Nat.lt_of_lt_of_le l1 hb1.size)
  have bM := ((hM.below bw hM.lt).below hb1 (Nat.lt_of_lt_of_le hM.lt bw.size)).below hb2 (Nat.lt_of_lt_of_le hM.lt (Nat.le_trans bw.size hb1.size))
  have bw2 := (bw.trans (hb1.mono bw.size)).trans (hb2.mono (Nat.le_trans bw.size hb1.size))
  have hMl := hM.lt
  clear H2 b0 b1 b2 HW g1 g2 e0 hb1 hb2 bw l0 l1 hM
  obtain ⟨WL, hWL⟩ : ∃ WL, w2.alloc (.cells #[.bool x, .slice A na ca] 26) = WL := ⟨_, rfl⟩
  have k8 : Blk WL w2.heap.size 26 #[.bool x, .slice A na ca] := by rw [← hWL]; exact Blk.new _ _ _
  have kM : Blk WL M 26 #[.bool y, .slice B nb cb] := by rw [← hWL]; exact bM.alloc _
  have k1 : Blk WL (w.heap.size + 1) 26 #[.bool false, .slice none 0 0] := by rw [← hWL]; exact e1.alloc _
  have bL : Below w.heap.size w WL := by rw [← hWL]; exact bw2.alloc bw2.size _
  have hR : w.heap.size + 1 < w2.heap.size := e1.lt
  obtain ⟨R, hR8⟩ : ∃ R, w2.heap.size = R := ⟨_, rfl⟩
  rw [hWL]
  rw [hR8] at k8 hR ⊢
  clear hWL hR8 e1 bM bw2 l2
  go_loopw [24] (fun i wr => (i = .int .i64 0 ∧ wr = WL) ∨ (i = .int .i64 1 ∧ ∃ (A' : Option Addr) (c' n' : Nat), Hid ((digs z.natAbs).length = n') ∧ Blk wr R 26 #[.bool (decide (z < 0)), .slice A' n' c'] ∧ Blk wr (w.heap.size + 1) 26 #[.bool false, .slice none 0 0] ∧ Sl wr (.slice A' n' c') (digs z.natAbs) ∧ Below w.heap.size w wr ∧ n' ≤ 1024)) (fun i _ => (1 - intOf i).toNat)
  case atStart => exact .inl ⟨rfl, rfl⟩
  case round =>
    rcases hrel with ⟨rfl, rfl⟩ | ⟨rfl, A', c', n', Hn', q8, q1, hs, hbel, hle⟩
    · have g1 := (k8.cell 0).trans (b := some (Value.bool x)) rfl
      have g2 := (k8.cell 1).trans (b := some (Value.slice A na ca)) rfl
      have g3 := (kM.cell 0).trans (b := some (Value.bool y)) rfl
      have g4 := (kM.cell 1).trans (b := some (Value.slice B nb cb)) rfl
      have y8 := k8.lt
      have yM := kM.lt
      have bwr := bL
      have WA : Hid (Wh (wr.alloc (.cells #[.bool y, .slice B nb cb] 26)) (.agg #[.bool x, .slice A na ca]) x la) := ⟨A, ca, by rw [hna.out], by rw [hna.out]; exact (hsa.below bL).below ((Below.refl _ _).alloc (Nat.le_refl _) _)⟩
      have WB : Hid (Wh (wr.alloc (.cells #[.bool y, .slice B nb cb] 26)) (.agg #[.bool y, .slice B nb cb]) y lb) := ⟨B, cb, by rw [hnb.out], by rw [hnb.out]; exact (hsb.below bL).below ((Below.refl _ _).alloc (Nat.le_refl _) _)⟩
      have hop2 := hop _ _ _ WA.out WB.out
      have HO : Hid (Calls Try.prog f #[.agg #[.bool x, .slice A na ca], .agg #[.bool y, .slice B nb cb]] (wr.alloc (.cells #[.bool y, .slice B nb cb] 26)) fun e w' => ∃ v, e = .returned v ∧ WhZ w' v z ∧ Below (wr.alloc (.cells #[.bool y, .slice B nb cb] 26)).heap.size (wr.alloc (.cells #[.bool y, .slice B nb cb] 26)) w') := hop2
      clear hop2 hop WA WB
      go_wp2_with (refine HO.out.mono ?_; rintro e w3 ⟨v, rfl, hz, hb3⟩; obtain ⟨n', A', c', Hn', rfl, hs⟩ := whz_len hz; have p8 := (k8.alloc (.cells #[.bool y, .slice B nb cb] 26)).below hb3 (k8.alloc _).lt; have p1 := (k1.alloc (.cells #[.bool y, .slice B nb cb] 26)).below hb3 (k1.alloc _).lt; have m1 := (p8.cell 0).trans (b := some (Value.bool x)) rfl; have m2 := (p8.cell 1).trans (b := some (Value.slice A na ca)) rfl; have m3 := p8.frozen 0; have m4 := p8.frozen 1; have m5 := p8.lt; have m6 := (p1.cell 0).trans (b := some (Value.bool false)) rfl; have m7 := (p1.cell 1).trans (b := some (Value.slice none 0 0)) rfl; have m8 := p1.frozen 0; have m9 := p1.frozen 1; have m10 := p1.lt; have hn'2 : n' ≤ 1024 := by rw [← Hn'.out]; exact HL.out)
      have b3 := bL.trans (((Below.refl wr.heap.size wr).alloc (Nat.le_refl _) (.cells #[.bool y, .slice B nb cb] 26)).trans (hb3.mono (by simp)) |>.mono bL.size)
      have q8 := (p8.set_ 0 (.bool (decide (z < 0)))).set_ 1 (.slice A' n' c')
      have q1 := (p1.far (p := ⟨R, 0, none⟩) (by simp; omega) (.bool (decide (z < 0)))).far (p := ⟨R, 1, none⟩) (by simp; omega) (.slice A' n' c')
      have b4 := (b3.setCell (p := ⟨R, 0, none⟩) (by simp; omega) (.bool (decide (z < 0)))).setCell (p := ⟨R, 1, none⟩) (by simp; omega) (.slice A' n' c')
      have s4 := hs.store2 p8 (decide (z < 0)) A' n' c'
      go_roundw
      case rel => exact .inr ⟨rfl, A', c', n', Hn', q8, q1, s4, b4, hn'2⟩
      case measure => simp [intOf]
    · have m1 := (q8.cell 0).trans (b := some (Value.bool (decide (z < 0)))) rfl
      have m2 := (q8.cell 1).trans (b := some (Value.slice A' n' c')) rfl
      have m6 := (q1.cell 0).trans (b := some (Value.bool false)) rfl
      have m7 := (q1.cell 1).trans (b := some (Value.slice none 0 0)) rfl
      have m8 := q1.frozen 0
      have m9 := q1.frozen 1
      have m10 := q1.lt
      have m5 := q8.lt
      go_wp2
      have r := ((q1.set_ 0 (.bool (decide (z < 0)))).set_ 1 (.slice A' n' c'))
      have r0 := (r.cell 0).trans (b := some (Value.bool (decide (z < 0)))) rfl
      have r1 := (r.cell 1).trans (b := some (Value.slice A' n' c')) rfl
      have s5 := hs.store2 q1 (decide (z < 0)) A' n' c'
      refine bodyPost_ret (v := .tuple #[.agg #[.bool (decide (z < 0)), .slice A' n' c'], .int .i64 0]) (by simp [results, Try.f38, go_sem, r0, r1]) rfl ⟨_, rfl, ⟨A', c', by rw [Hn'.out], by rw [Hn'.out]; exact s5⟩, (hbel.setCell (p := ⟨w.heap.size + 1, 0, none⟩) (by simp) _).setCell (p := ⟨w.heap.size + 1, 1, none⟩) (by simp) _⟩

set_option maxRecDepth 100000 in
set_option maxHeartbeats 2000000 in
theorem join_long (f M : Nat) (x y : Bool) (la lb : List Nat) (A B : Option Addr) (na ca nb cb : Nat) (z : Int) (w : World) (hf : ∀ args w, (callFunc f args).run Try.prog w = .ok (.enter f args) w) (hop : OpZ f x la y lb z) (hlen : 1024 < (digs z.natAbs).length)
    (hsa : Sl w (.slice A na ca) la) (hna : Hid (la.length = na)) (hsb : Sl w (.slice B nb cb) lb) (hnb : Hid (lb.length = nb)) (hM : Blk w M 26 #[.bool y, .slice B nb cb]) (hx : validB x la = true) (hy : validB y lb = true) :
    Calls Try.prog 38 #[.func (.func f) #[] #[], .agg #[.bool x, .slice A na ca], .slice (some ⟨M, 0, none⟩) 1 1] w fun e w' => e = .returned (.tuple #[.agg #[.bool false, .slice none 0 0], .int .i64 3]) ∧ Below w.heap.size w w' := by
  obtain ⟨W0, hW0⟩ : ∃ W0, ((w.alloc (.cells #[.bool x, .slice A na ca] 26)).alloc (.cells #[.bool false, .slice none 0 0] 26)).alloc (.cells #[.bool x, .slice A na ca] 26) = W0 := ⟨_, rfl⟩
  have b0 : Blk W0 w.heap.size 26 #[.bool x, .slice A na ca] := by rw [← hW0]; exact ((Blk.new w _ _).alloc _).alloc _
  have b1 : Blk W0 (w.heap.size + 1) 26 #[.bool false, .slice none 0 0] := by
    rw [← hW0]
    have := (Blk.new (w.alloc (.cells #[.bool x, .slice A na ca] 26)) 26 #[.bool false, .slice none 0 0]).alloc (.cells #[.bool x, .slice A na ca] 26)
    rwa [World.size_alloc] at this
  have b2 : Blk W0 (w.heap.size + 1 + 1) 26 #[.bool x, .slice A na ca] := by
    rw [← hW0]
    have := (Blk.new ((w.alloc (.cells #[.bool x, .slice A na ca] 26)).alloc (.cells #[.bool false, .slice none 0 0] 26)) 26 #[.bool x, .slice A na ca])
    rwa [World.size_alloc, World.size_alloc] at this
  have bw : Below w.heap.size w W0 := by rw [← hW0]; exact (by repeat (first | exact Below.refl _ _ | assumption | refine Below.alloc ?_ (by first | (simp; done) | (simp; omega) | omega) _ | refine Below.setCell ?_ (by first | (simp; done) | (simp; omega) | omega) _ | refine Below.drew ?_))
  have HW : Hid (((w.alloc (.cells #[.bool x, .slice A na ca] 26)).alloc (.cells #[.bool false, .slice none 0 0] 26)).alloc (.cells #[.bool x, .slice A na ca] 26) = W0) := hW0
  clear hW0
  have h1 := allValid1 (hsa.below bw) hna b2
  have l0 := b0.lt
  have l1 := b1.lt
  rw [hx] at h1
  have H1 : Hid (Calls Try.prog 48 #[.slice (some ⟨w.heap.size + 1 + 1, 0, none⟩) 1 1] W0 fun e w' => e = .returned (.bool true) ∧ Below W0.heap.size W0 w') := h1
  have H2 : Hid (∀ w1, Below W0.heap.size W0 w1 → Calls Try.prog 48 #[.slice (some ⟨M, 0, none⟩) 1 1] w1 fun e w' => e = .returned (.bool true) ∧ Below w1.heap.size w1 w') := by
    intro w1 hb
    have := allValid1 ((hsb.below bw).below hb) hnb ((hM.below bw hM.lt).below hb (Nat.lt_of_lt_of_le hM.lt bw.size))
    rwa [hy] at this
  have HL : Hid (1024 < (digs z.natAbs).length) := hlen
  clear h1 hx hy hlen
  go_enter Try.func38, Try.ntmps38
  go_wp2_with (first | (rw [HW.out]; go_at_call 48; refine H1.out.mono ?_; clear H1; rintro e w1 ⟨rfl, hb1⟩) | (go_at_call 48; refine (H2.out _ hb1).mono ?_; rintro e w2 ⟨rfl, hb2⟩; have e0 := (b0.below hb1 l0).below hb2 (Nat.lt_of_lt_of_le l0 hb1.size); have g1 := (e0.cell 0).trans (b := some (Value.bool x)) rfl; have g2 := (e0.cell 1).trans (b := some (Value.slice A na ca)) rfl; have l2 := e0.lt))
  have e1 := (b1.below hb1 l1).below hb2 (Nat.lt_of_lt_of_le l1 hb1.size)
  have bM := ((hM.below bw hM.lt).below hb1 (Nat.lt_of_lt_of_le hM.lt bw.size)).below hb2 (Nat.lt_of_lt_of_le hM.lt (Nat.le_trans bw.size hb1.size))
  have bw2 := (bw.trans (hb1.mono bw.size)).trans (hb2.mono (Nat.le_trans bw.size hb1.size))
  have hMl := hM.lt
  clear H2 b0 b1 b2 HW g1 g2 e0 hb1 hb2 bw l0 l1 hM
  obtain ⟨WL, hWL⟩ : ∃ WL, w2.alloc (.cells #[.bool x, .slice A na ca] 26) = WL := ⟨_, rfl⟩
  have k8 : Blk WL w2.heap.size 26 #[.bool x, .slice A na ca] := by rw [← hWL]; exact Blk.new _ _ _
  have kM : Blk WL M 26 #[.bool y, .slice B nb cb] := by rw [← hWL]; exact bM.alloc _
  have k1 : Blk WL (w.heap.size + 1) 26 #[.bool false, .slice none 0 0] := by rw [← hWL]; exact e1.alloc _
  have bL : Below w.heap.size w WL := by rw [← hWL]; exact bw2.alloc bw2.size _
  have hR : w.heap.size + 1 < w2.heap.size := e1.lt
  obtain ⟨R, hR8⟩ : ∃ R, w2.heap.size = R := ⟨_, rfl⟩
  rw [hWL]
  rw [hR8] at k8 hR ⊢
  clear hWL hR8 e1 bM bw2 l2
  go_loopw [24] (fun i wr => (i = .int .i64 0 ∧ wr = WL) ∨ (i = .int .i64 1 ∧ ∃ (A' : Option Addr) (c' n' : Nat), Hid ((digs z.natAbs).length = n') ∧ Blk wr R 26 #[.bool (decide (z < 0)), .slice A' n' c'] ∧ Blk wr (w.heap.size + 1) 26 #[.bool false, .slice none 0 0] ∧ Sl wr (.slice A' n' c') (digs z.natAbs) ∧ Below w.heap.size w wr ∧ n' ≤ 1024)) (fun i _ => (1 - intOf i).toNat)
  case atStart => exact .inl ⟨rfl, rfl⟩
  case round =>
    rcases hrel with ⟨rfl, rfl⟩ | ⟨rfl, A', c', n', Hn', q8, q1, hs, hbel, hle⟩
    · have g1 := (k8.cell 0).trans (b := some (Value.bool x)) rfl
      have g2 := (k8.cell 1).trans (b := some (Value.slice A na ca)) rfl
      have g3 := (kM.cell 0).trans (b := some (Value.bool y)) rfl
      have g4 := (kM.cell 1).trans (b := some (Value.slice B nb cb)) rfl
      have y8 := k8.lt
      have yM := kM.lt
      have bwr := bL
      have WA : Hid (Wh (wr.alloc (.cells #[.bool y, .slice B nb cb] 26)) (.agg #[.bool x, .slice A na ca]) x la) := ⟨A, ca, by rw [hna.out], by rw [hna.out]; exact (hsa.below bL).below ((Below.refl _ _).alloc (Nat.le_refl _) _)⟩
      have WB : Hid (Wh (wr.alloc (.cells #[.bool y, .slice B nb cb] 26)) (.agg #[.bool y, .slice B nb cb]) y lb) := ⟨B, cb, by rw [hnb.out], by rw [hnb.out]; exact (hsb.below bL).below ((Below.refl _ _).alloc (Nat.le_refl _) _)⟩
      have hop2 := hop _ _ _ WA.out WB.out
      have HO : Hid (Calls Try.prog f #[.agg #[.bool x, .slice A na ca], .agg #[.bool y, .slice B nb cb]] (wr.alloc (.cells #[.bool y, .slice B nb cb] 26)) fun e w' => ∃ v, e = .returned v ∧ WhZ w' v z ∧ Below (wr.alloc (.cells #[.bool y, .slice B nb cb] 26)).heap.size (wr.alloc (.cells #[.bool y, .slice B nb cb] 26)) w') := hop2
      clear hop2 hop WA WB
      go_wp2_with (refine HO.out.mono ?_; rintro e w3 ⟨v, rfl, hz, hb3⟩; obtain ⟨n', A', c', Hn', rfl, hs⟩ := whz_len hz; have p8 := (k8.alloc (.cells #[.bool y, .slice B nb cb] 26)).below hb3 (k8.alloc _).lt; have p1 := (k1.alloc (.cells #[.bool y, .slice B nb cb] 26)).below hb3 (k1.alloc _).lt; have m1 := (p8.cell 0).trans (b := some (Value.bool x)) rfl; have m2 := (p8.cell 1).trans (b := some (Value.slice A na ca)) rfl; have m3 := p8.frozen 0; have m4 := p8.frozen 1; have m5 := p8.lt; have m6 := (p1.cell 0).trans (b := some (Value.bool false)) rfl; have m7 := (p1.cell 1).trans (b := some (Value.slice none 0 0)) rfl; have m8 := p1.frozen 0; have m9 := p1.frozen 1; have m10 := p1.lt; have hn'2 : 1024 < n' := by rw [← Hn'.out]; exact HL.out)
      have b3 := bL.trans (((Below.refl wr.heap.size wr).alloc (Nat.le_refl _) (.cells #[.bool y, .slice B nb cb] 26)).trans (hb3.mono (by simp)) |>.mono bL.size)
      have q8 := (p8.set_ 0 (.bool (decide (z < 0)))).set_ 1 (.slice A' n' c')
      have q1 := (p1.far (p := ⟨R, 0, none⟩) (by simp; omega) (.bool (decide (z < 0)))).far (p := ⟨R, 1, none⟩) (by simp; omega) (.slice A' n' c')
      have b4 := (b3.setCell (p := ⟨R, 0, none⟩) (by simp; omega) (.bool (decide (z < 0)))).setCell (p := ⟨R, 1, none⟩) (by simp; omega) (.slice A' n' c')
      have s4 := hs.store2 p8 (decide (z < 0)) A' n' c'
      have r := ((q1.set_ 0 (.bool false)).set_ 1 (.slice none 0 0))
      have r0 := (r.cell 0).trans (b := some (Value.bool false)) rfl
      have r1 := (r.cell 1).trans (b := some (Value.slice none 0 0)) rfl
      exact bodyPost_ret (v := .tuple #[.agg #[.bool false, .slice none 0 0], .int .i64 3]) (by simp [results, Try.f38, go_sem, r0, r1]) rfl ⟨rfl, (b4.setCell (p := ⟨w.heap.size + 1, 0, none⟩) (by simp) _).setCell (p := ⟨w.heap.size + 1, 1, none⟩) (by simp) _⟩
    · exfalso
      have := HL.out
      rw [Hn'.out] at this
      omega

end Go.Proofs.Ytgnidjhfiagfnaa
