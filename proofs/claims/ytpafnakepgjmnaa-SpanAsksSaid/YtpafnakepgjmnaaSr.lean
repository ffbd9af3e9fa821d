/- Within; Union, Meet, Minus. -/
import Derived.Test.YtpafnakepgjmnaaSq
namespace Go.Proofs.Ytpafnakepgjmnaa
open Go.RowKit Go.Lib Go.Shelf
attribute [local go_sem] Oper.semAt_some

/-- What Within's loop holds between two rounds. -/
def WI (w : World) (Br : Nat) (la lb : List Sp) (i j : Nat) (W : World) : Prop :=
  ∃ t : Int, Hid (At la lb i j t ∧ (odd i && !odd j) = false ∧ ∀ x, x < t → memB la x = true → memB lb x = true) ∧ Blk W Br 4 #[.bool false] ∧ Below w.heap.size w W
def WX (w : World) (Br : Nat) (la lb : List Sp) (W : World) : Prop := Hid (∃ x, memB la x = true ∧ memB lb x = false) ∧ Blk W Br 4 #[.bool false] ∧ Below w.heap.size w W

/-- Whether all days of the one set are days of the other one. -/
def withinB (la lb : List Sp) : Bool := (norm fun x => memB la x && !memB lb x).isEmpty
theorem withinB_true {la lb : List Sp} (ha : IsSet la) : withinB la lb = true ↔ ∀ x, memB la x = true → memB lb x = true := by
  unfold withinB
  rw [List.isEmpty_iff]
  constructor
  · intro h x hx
    have := norm_mem (fun x => memB la x && !memB lb x) x
    rw [h, memB_nil] at this
    have hb := ha.mem hx
    cases hb2 : memB lb x with
    | true => rfl
    | false => simp [hx, hb2, hb.1, hb.2] at this
  · intro h
    refine (norm_set _).ext isSet_nil fun x => ?_
    rw [norm_mem, memB_nil]
    cases hx : memB la x with
    | false => simp
    | true => simp [h x hx]
theorem withinB_false {la lb : List Sp} (ha : IsSet la) {x : Int} (h1 : memB la x = true) (h2 : memB lb x = false) : withinB la lb = false := by
  cases h : withinB la lb with
  | false => rfl
  | true => have := (withinB_true ha).1 h x h1; rw [h2] at this; cases this

set_option maxRecDepth 100000 in
set_option maxHeartbeats 2000000 in
theorem within_yes (la lb : List Sp) (A B : Option Addr) (na ca nb cb : Nat) (w : World) (hna : Hid (la.length = na)) (hnb : Hid (lb.length = nb)) (hsa : Hid (IsSet la)) (hsb : Hid (IsSet lb)) (hA : SpH w A la) (hB : SpH w B lb) :
    Calls Try.prog 23 #[.slice A na ca, .slice B nb cb] w fun e w' => e = .returned (.bool (withinB la lb)) ∧ Below w.heap.size w w' := by
  have hma : na ≤ 65536 := by have := hsa.out.len_bd; rw [hna.out] at this; exact this
  have hmb : nb ≤ 65536 := by have := hsb.out.len_bd; rw [hnb.out] at this; exact this
  have HVa := hid (validB_true.2 hsa.out)
  have HVb := hid (validB_true.2 hsb.out)
  have HA := hid hA
  have HB := hid hB
  clear hA hB
  have hmx : Try.prog.follows .mixedOrders = true := by kernel_rfl
  refine (callsIn_wide (n := 9)).1 ?_
  refine callsIn_of_wp_marks Try.func23 rfl trivial ?_ rfl
  simp only [Try.ntmps23, List.size_toArray, List.length_cons, List.length_nil, Nat.reduceAdd, Nat.reduceSub, Array.replicate_succ, Array.replicate_zero, List.push_toArray, List.append_toArray, List.nil_append, List.cons_append]
  gi_wp2_with fail
  refine ⟨trivial, ?_⟩
  have b0 : Below w.heap.size w (w.alloc (.cells #[.bool false] 4)) := (Below.refl _ w).alloc (Nat.le_refl _) _
  refine (callsIn_wide.2 (valid_any la A na ca _ hna (by omega) (HA.out.below b0))).mono ?_
  rintro e w1 ⟨rfl, h1⟩
  rw [HVa.out]
  have b1 := below_new h1
  have k1 := (Blk.new w 4 #[.bool false]).below h1 (by simp)
  clear h1 b0
  gi_wp2_with fail
  refine ⟨trivial, ?_⟩
  refine (callsIn_wide.2 (valid_any lb B nb cb _ hnb (by omega) (HB.out.below b1))).mono ?_
  rintro e w2 ⟨rfl, h2⟩
  rw [HVb.out]
  have b2 := b1.trans (h2.mono b1.size)
  have K2 := hid (k1.below h2 k1.lt)
  have HB2 := hid b2
  clear h2 b1 k1 b2
  gi_wp2_with (refine ⟨trivial, ?_⟩; gi_at_call 50; refine (callsIn_wide.2 (changes_any _ _ _ _ _ _ _)).mono ?_; rintro e w' ⟨rfl, rfl⟩)
  have kr := (K2.out.alloc (.cells #[.slice A na ca] 22)).alloc (.cells #[.slice B nb cb] 22)
  have kp := (Blk.new w2 22 #[.slice A na ca]).alloc (.cells #[.slice B nb cb] 22)
  have kq := Blk.new (w2.alloc (.cells #[.slice A na ca] 22)) 22 #[.slice B nb cb]
  have hb5 : Below w.heap.size w ((w2.alloc (.cells #[.slice A na ca] 22)).alloc (.cells #[.slice B nb cb] 22)) :=
    (HB2.out.alloc HB2.out.size _).alloc (by have := HB2.out.size; simp; omega) _
  simp only [World.size_alloc] at kr kp kq
  have hsz5 : ((w2.alloc (.cells #[.slice A na ca] 22)).alloc (.cells #[.slice B nb cb] 22)).heap.size = w2.heap.size + 2 := by simp
  have hw2 : w.heap.size < w2.heap.size := K2.out.lt
  generalize (w2.alloc (.cells #[.slice A na ca] 22)).alloc (.cells #[.slice B nb cb] 22) = w5 at *
  have HS5 := hid hsz5
  clear hsz5
  refine wpIn_changes (by omega) la lb A B na ca nb cb w2.heap.size (w2.heap.size + 1) rfl hna hnb hsa hsb hma hmb
    (WI w w.heap.size la lb) (WX w w.heap.size la lb) ?hI ?hIx ?hI1 ((kp.cell 0).trans rfl) ((kq.cell 0).trans rfl) ?h0
    (fun D x y gx => { tmps := #[Value.slice A na ca, Value.slice B nb cb, undef, undef, Value.pointer (some ⟨w.heap.size, 0, none⟩), undef, Value.pointer (some ⟨gx, 0, none⟩), Value.slice A na ca, Value.bool true, Value.bool false, Value.bool false, Value.slice B nb cb, Value.bool true, Value.bool false, Value.bool false, Value.slice A na ca, Value.slice B nb cb, Value.func (Fn.func 60) #[] #[Value.pointer (some ⟨w2.heap.size, 0, none⟩), Value.pointer (some ⟨w2.heap.size + 1, 0, none⟩)], Value.int .i64 D, Value.agg #[.bool x, .bool y], undef, undef], defers := [] }) ?assign ?body ?done ?stop
  case hI =>
    rintro i j W W' row ⟨t, h1, h2, h6⟩ hg hr
    have := HS5.out
    exact ⟨t, h1, h2.grown hg (fun e => by have := hr _ e.symm; omega), h6.grown hg h6.size (fun k e => by have := hr _ e; omega)⟩
  case hIx =>
    rintro W W' row ⟨h1, h2, h6⟩ hg hr
    have := HS5.out
    exact ⟨h1, h2.grown hg (fun e => by have := hr _ e.symm; omega), h6.grown hg h6.size (fun k e => by have := hr _ e; omega)⟩
  case hI1 =>
    rintro i j W ⟨t, h1, h2, h6⟩
    exact ⟨HA.out.below h6, HB.out.below h6⟩
  case h0 =>
    exact ⟨0, ⟨at_start la lb, rfl, fun x hx hm => by have := hsa.out.mem hm; omega⟩, kr, hb5⟩
  case assign =>
    intro l D x y W K hK
    gi_wp2
    exact hK
  case body =>
    rintro l i j W gx hi hj hne hgx ⟨t, HC, br, hb⟩ bx
    obtain ⟨n1, n2, n3, n4, n5⟩ := HC.out.1.next hsa.out hsb.out hne
    have hall : ∀ z, z < nxtD la lb i j → memB la z = true → memB lb z = true := fun z g1 g2 => by
      by_cases g : z < t
      · exact HC.out.2.2 z g g2
      · obtain ⟨m1, m2⟩ := HC.out.1.mem hsa.out hsb.out (by omega) g1
        have := HC.out.2.1
        rw [← m1, ← m2, g2] at this
        simpa using this
    have hmem : memB la (nxtD la lb i j) = odd (nxtI la lb i j) ∧ memB lb (nxtD la lb i j) = odd (nxtJ la lb i j) := by
      have := n1.lt
      refine n1.mem hsa.out hsb.out (Int.le_refl _) ?_
      unfold nxtD at *
      rcases n1.lt with ⟨h1, h2, h3⟩ | h
      · unfold nxtI nxtJ nxtD at *
        split at h1 <;> split at h2 <;> omega
      · omega
    have HN1 := hid n1
    have HALL := hid hall
    have HM := hid hmem
    clear n1 n2 n3 n4 n5 hall hmem hne HC hi hj
    generalize nxtI la lb i j = i' at *
    generalize nxtJ la lb i j = j' at *
    generalize nxtD la lb i j = D at *
    obtain ⟨x, hx⟩ : ∃ x, odd i' = x := ⟨_, rfl⟩
    obtain ⟨y, hy⟩ : ∃ y, odd j' = y := ⟨_, rfl⟩
    rw [hx, hy] at bx HM ⊢
    have HX := hid hx
    have HY := hid hy
    have c0 := (bx.cell 0).trans (b := some (Value.bool x)) rfl
    have c1 := (bx.cell 1).trans (b := some (Value.bool y)) rfl
    have hgl := bx.lt
    have HBR := hid br
    have HB6 := hid hb
    have hkr : Hid (∀ W1, Below W.heap.size W W1 → W.heap.size ≤ W1.heap.size ∧ ∀ r, w5.heap.size ≤ r → r < w5.heap.size + 4 → W1.heap[r]? = W.heap[r]?) := fun W1 hb1 => ⟨hb1.size, fun r h1 h2 => hb1.block r (by omega)⟩
    clear hx hy br hb
    gi_wp2_with fail
    refine ⟨trivial, ?_⟩
    refine (CallsIn.inRound l (callsIn_wide.2 (only_pred x y W))).mono ?_
    rintro e w3 ⟨rfl, h3⟩
    have HBR3 := hid (HBR.out.below h3 HBR.out.lt)
    have HB63 := hid (HB6.out.trans (h3.mono HB6.out.size))
    have HK3 := hid (hkr.out w3 h3)
    have f3 := HBR3.out.frozen 0
    have d3 := (HBR3.out.cell 0).trans (b := some (Value.bool false)) rfl
    clear h3 HBR HB6 hkr c0 c1 bx
    cases hxy : (x && !y)
    · have HXY := hid hxy
      clear hxy
      gi_wp2
      exact ⟨HK3.out, D, ⟨HN1.out, by rw [HX.out, HY.out]; exact HXY.out, HALL.out⟩, HBR3.out, HB63.out⟩
    · have HWX : Hid (∃ z, memB la z = true ∧ memB lb z = false) := ⟨D, by rw [HM.out.1]; simp at hxy; exact hxy.1, by rw [HM.out.2]; simp at hxy; exact hxy.2⟩
      have HK4 : Hid (W.heap.size ≤ (w3.setCell ⟨w.heap.size, 0, none⟩ (.bool false)).heap.size ∧ ∀ r, w5.heap.size ≤ r → r < w5.heap.size + 4 → (w3.setCell ⟨w.heap.size, 0, none⟩ (.bool false)).heap[r]? = W.heap[r]?) :=
        ⟨Nat.le_trans HK3.out.1 (grownBy_setCell' w3 _ _).size, fun r h1 h2 => (Below.heap_setCell w3 ⟨w.heap.size, 0, none⟩ _ r (show r ≠ w.heap.size by have := HS5.out; omega)).trans (HK3.out.2 r h1 h2)⟩
      clear hxy
      gi_wp2
      exact ⟨HK4.out, HWX, HBR3.out.set_ 0 _, HB63.out.setCell (p := ⟨w.heap.size, 0, none⟩) (Nat.le_refl _) _⟩
  case done =>
    rintro D W hD hD4 ⟨t, HC, br, hb⟩ hK
    have HR : Hid (withinB la lb = true) := by
      have e1 : odd (2 * na) = false := odd_even na
      have e2 : odd (2 * nb) = false := odd_even nb
      have hend : nxtD la lb (2 * na) (2 * nb) = 65537 := (nxt_end hsa.out hsb.out (by rw [hna.out]; exact Nat.le_refl _) (by rw [hnb.out]; exact Nat.le_refl _)).2 ⟨by rw [hna.out], by rw [hnb.out]⟩
      refine (withinB_true hsa.out).2 fun x hx => ?_
      by_cases g : x < t
      · exact HC.out.2.2 x g hx
      · have h6 := hsa.out.mem hx
        obtain ⟨m1, _⟩ := HC.out.1.mem hsa.out hsb.out (x := x) (by omega) (by rw [hend]; omega)
        rw [m1, e1] at hx; cases hx
    have c2 := (br.cell 0).trans (b := some (Value.bool false)) rfl
    have f2 := br.frozen 0
    have HK : Hid (W.heap[D]? = some (Obj.deferred (some []))) := hK
    have HBR := hid br
    have HBB := hid hb
    have hD2 : Hid (w.heap.size ≤ D) := by have := HS5.out; show _ ≤ _; omega
    clear hK HC br hb
    gi_wp2
    have k2 := (KeepsOthers.setCell W ⟨w.heap.size, 0, none⟩ (.bool true)).same D _ HK.out rfl
    refine ⟨by simp, .inl ⟨_, _, rfl, run_takeDeferred k2, ?_⟩⟩
    have q := ((HBR.out.set_ 0 (.bool true)).put (o' := .deferred none) k2 rfl).cell 0
    refine ⟨.bool true, by simp [results, Try.f23, go_sem, q], by rw [HR.out], ?_⟩
    exact below_put (HBB.out.setCell (p := ⟨w.heap.size, 0, none⟩) (Nat.le_refl _) _) (Nat.le_refl _) hD2.out _
  case stop =>
    rintro D W hD hD4 ⟨HX, br, hb⟩ hK
    have HR : Hid (withinB la lb = false) := by
      obtain ⟨x, h1, h2⟩ := HX.out
      exact withinB_false hsa.out h1 h2
    have HK : Hid (W.heap[D]? = some (Obj.deferred (some []))) := hK
    have HBR := hid br
    have HBB := hid hb
    have hD2 : Hid (w.heap.size ≤ D) := by have := HS5.out; show _ ≤ _; omega
    clear hK br hb HX
    gi_wp2
    refine ⟨by simp, .inl ⟨_, _, rfl, run_takeDeferred HK.out, ?_⟩⟩
    have q := (HBR.out.put (o' := .deferred none) HK.out rfl).cell 0
    refine ⟨.bool false, by simp [results, Try.f23, go_sem, q], by rw [HR.out], ?_⟩
    exact below_put HBB.out (Nat.le_refl _) hD2.out _
end Go.Proofs.Ytpafnakepgjmnaa
