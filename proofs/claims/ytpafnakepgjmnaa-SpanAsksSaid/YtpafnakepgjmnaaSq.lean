/- combine. -/
import Derived.Test.YtpafnakepgjmnaaSo
import Derived.RangeFuncBox
namespace Go.Proofs.Ytpafnakepgjmnaa
open Go.RowKit Go.Lib Go.Shelf
attribute [local go_sem] Oper.semAt_some

/-- What combine's loop holds between two rounds. -/
def CI (w : World) (Bw Bl Bi base f : Nat) (P : Bool → Bool → Bool) (la lb : List Sp) (i j : Nat) (W : World) : Prop :=
  ∃ (v : Value) (ins : Bool) (t : Int) (R : List Sp), Hid (At la lb i j t ∧ ins = P (odd i) (odd j) ∧ Coll (fun x => P (memB la x) (memB lb x)) ins t R) ∧
    Blk W Bw 60 #[.func (.func f) #[] #[]] ∧ Blk W Bl 22 #[v] ∧ Blk W Bi 4 #[.bool ins] ∧ OwnSp W base v R ∧ Below w.heap.size w W

/-- All that CI says of memory. -/
structure CM (w : World) (Bw Bl Bi base f : Nat) (v : Value) (ins : Bool) (R : List Sp) (B5 : Nat) (W W' : World) : Prop where
  bw : Blk W' Bw 60 #[.func (.func f) #[] #[]]
  bl : Blk W' Bl 22 #[v]
  bi : Blk W' Bi 4 #[.bool ins]
  own : OwnSp W' base v R
  low : Below w.heap.size w W'
  size : W.heap.size ≤ W'.heap.size
  keep : ∀ r, B5 ≤ r → r < B5 + 4 → W'.heap[r]? = W.heap[r]?

/-- The same, but for the row. -/
structure CM0 (w : World) (Bw Bl Bi f : Nat) (v : Value) (ins : Bool) (B5 : Nat) (W W' : World) : Prop where
  bw : Blk W' Bw 60 #[.func (.func f) #[] #[]]
  bl : Blk W' Bl 22 #[v]
  bi : Blk W' Bi 4 #[.bool ins]
  low : Below w.heap.size w W'
  size : W.heap.size ≤ W'.heap.size
  keep : ∀ r, B5 ≤ r → r < B5 + 4 → W'.heap[r]? = W.heap[r]?

section
variable {w W W' : World} {Bw Bl Bi base f B5 : Nat} {v : Value} {ins : Bool} {R : List Sp}
theorem CM.setI (h : CM w Bw Bl Bi base f v ins R B5 W W') (ins' : Bool) (h1 : Bw ≠ Bi) (h2 : Bl ≠ Bi) (h3 : w.heap.size ≤ Bi) (h4 : Bi < base) (h5 : Bi < B5) : CM w Bw Bl Bi base f v ins' R B5 W (W'.setCell ⟨Bi, 0, none⟩ (.bool ins')) where
  bw := h.bw.far (p := ⟨Bi, 0, none⟩) h1 _
  bl := h.bl.far (p := ⟨Bi, 0, none⟩) h2 _
  bi := h.bi.set_ 0 _
  own := World.ownsRow.kept h.own (grownBy_setCell' W' Bi _) (by
    cases ho : v.ownBlock with
    | none => exact .inl rfl
    | some g => exact .inr fun e => by have h7 := (World.ownsRow.lt h.own g ho).1; have := Option.some.inj e; omega)
  low := h.low.setCell (p := ⟨Bi, 0, none⟩) h3 _
  size := Nat.le_trans h.size (grownBy_setCell' W' Bi (.bool ins')).size
  keep := fun r g1 g2 => (Below.heap_setCell W' ⟨Bi, 0, none⟩ _ r (show r ≠ Bi by omega)).trans (h.keep r g1 g2)
theorem CM0.setL {v' : Value} {R' : List Sp} (h : CM0 w Bw Bl Bi f v ins B5 W W') (ho : OwnSp W' base v' R') (h1 : Bw ≠ Bl) (h2 : Bi ≠ Bl) (h3 : w.heap.size ≤ Bl) (h4 : Bl < base) (h5 : Bl < B5) : CM w Bw Bl Bi base f v' ins R' B5 W (W'.setCell ⟨Bl, 0, none⟩ v') where
  bw := h.bw.far (p := ⟨Bl, 0, none⟩) h1 _
  bl := h.bl.set_ 0 _
  bi := h.bi.far (p := ⟨Bl, 0, none⟩) h2 _
  own := World.ownsRow.kept ho (grownBy_setCell' W' Bl _) (by
    cases ho' : v'.ownBlock with
    | none => exact .inl rfl
    | some g => exact .inr fun e => by have h7 := (World.ownsRow.lt ho g ho').1; have := Option.some.inj e; omega)
  low := h.low.setCell (p := ⟨Bl, 0, none⟩) h3 _
  size := Nat.le_trans h.size (grownBy_setCell' W' Bl v').size
  keep := fun r g1 g2 => (Below.heap_setCell W' ⟨Bl, 0, none⟩ _ r (show r ≠ Bl by omega)).trans (h.keep r g1 g2)
theorem CM.setE {g q c : Nat} (h : CM w Bw Bl Bi base f (.slice (some ⟨g, 0, none⟩) (q + 1) c) ins R B5 W W') (hq : R.length = q + 1) (e : Int) (h1 : Bw < base) (h2 : Bl < base) (h3 : Bi < base) (h4 : w.heap.size ≤ base) (h5 : B5 + 4 ≤ base) :
    CM w Bw Bl Bi base f (.slice (some ⟨g, 0, none⟩) (q + 1) c) ins (ext R e) B5 W (W'.setCell ⟨g, q * 2 + 1, none⟩ (.int .i64 e)) := by
  have hg := (World.ownsRow.lt h.own g rfl).1
  have hgr : W'.grownBy (W'.setCell ⟨g, q * 2 + 1, none⟩ (.int .i64 e)) (some g) := ⟨rfl, rfl, rfl, by simp [World.setCell], fun k _ hk => Below.heap_setCell _ _ _ k (fun e => hk (by rw [e]))⟩
  exact {
    bw := h.bw.far (p := ⟨g, q * 2 + 1, none⟩) (show Bw ≠ g by omega) _
    bl := h.bl.far (p := ⟨g, q * 2 + 1, none⟩) (show Bl ≠ g by omega) _
    bi := h.bi.far (p := ⟨g, q * 2 + 1, none⟩) (show Bi ≠ g by omega) _
    own := OwnSp.ext_ h.own hq e
    low := h.low.setCell (p := ⟨g, q * 2 + 1, none⟩) (show w.heap.size ≤ g by omega) _
    size := Nat.le_trans h.size hgr.size
    keep := fun r g1 g2 => (Below.heap_setCell W' ⟨g, q * 2 + 1, none⟩ _ r (show r ≠ g by omega)).trans (h.keep r g1 g2) }
theorem CM.ci {P : Bool → Bool → Bool} {la lb : List Sp} {i j : Nat} {t : Int} (h : CM w Bw Bl Bi base f v ins R B5 W W') (hp : Hid (At la lb i j t ∧ ins = P (odd i) (odd j) ∧ Coll (fun x => P (memB la x) (memB lb x)) ins t R)) :
    (W.heap.size ≤ W'.heap.size ∧ ∀ r, B5 ≤ r → r < B5 + 4 → W'.heap[r]? = W.heap[r]?) ∧ CI w Bw Bl Bi base f P la lb i j W' :=
  ⟨⟨h.size, h.keep⟩, v, ins, t, R, hp, h.bw, h.bl, h.bi, h.own, h.low⟩
end

set_option maxRecDepth 100000 in
set_option maxHeartbeats 2000000 in
theorem comb_yes (f : Nat) (P : Bool → Bool → Bool) (hP : P false false = false) (hf : ∀ x y W, Calls Try.prog f #[.agg #[.bool x, .bool y]] W fun e w' => e = .returned (.bool (P x y)) ∧ Below W.heap.size W w')
    (eg : ∀ args w, (callFunc f args).run Try.prog w = .ok (.enter f args) w)
    (la lb : List Sp) (A B : Option Addr) (na ca nb cb : Nat) (w : World) (hna : Hid (la.length = na)) (hnb : Hid (lb.length = nb)) (hsa : Hid (IsSet la)) (hsb : Hid (IsSet lb)) (hA : SpH w A la) (hB : SpH w B lb) :
    Calls Try.prog 42 #[.slice A na ca, .slice B nb cb, .func (.func f) #[] #[]] w (RetSpE w (combL P la lb) 0) := by
  have hma : na ≤ 65536 := by have := hsa.out.len_bd; rw [hna.out] at this; exact this
  have hmb : nb ≤ 65536 := by have := hsb.out.len_bd; rw [hnb.out] at this; exact this
  have HVa := hid (validB_true.2 hsa.out)
  have HVb := hid (validB_true.2 hsb.out)
  have HA := hid hA
  have HB := hid hB
  have HF := hid hf
  have HP := hid hP
  clear hA hB hf hP
  have hmx : Try.prog.follows .mixedOrders = true := by kernel_rfl
  refine (callsIn_wide (n := 9)).1 ?_
  refine callsIn_of_wp_marks Try.func42 rfl trivial ?_ rfl
  simp only [Try.ntmps42, List.size_toArray, List.length_cons, List.length_nil, Nat.reduceAdd, Nat.reduceSub, Array.replicate_succ, Array.replicate_zero, List.push_toArray, List.append_toArray, List.nil_append, List.cons_append]
  gi_wp2_with fail
  refine ⟨trivial, ?_⟩
  have b0 : Below w.heap.size w (w.alloc (.cells #[.func (.func f) #[] #[]] 60)) := (Below.refl _ w).alloc (Nat.le_refl _) _
  refine (callsIn_wide.2 (valid_any la A na ca _ hna (by omega) (HA.out.below b0))).mono ?_
  rintro e w1 ⟨rfl, h1⟩
  rw [HVa.out]
  have b1 := below_new h1
  have k1 := (Blk.new w 60 #[.func (.func f) #[] #[]]).below h1 (by simp)
  clear h1 b0
  gi_wp2_with fail
  refine ⟨trivial, ?_⟩
  refine (callsIn_wide.2 (valid_any lb B nb cb _ hnb (by omega) (HB.out.below b1))).mono ?_
  rintro e w2 ⟨rfl, h2⟩
  rw [HVb.out]
  have b2 := b1.trans (h2.mono b1.size)
  have K2 := hid (k1.below h2 k1.lt)
  have HB2 := hid b2
  clear h2 b1 k1 b2
  gi_wp2_with (refine ⟨trivial, ?_⟩; gi_at_call 50; refine (callsIn_wide.2 (changes_any _ _ _ _ _ _ _)).mono ?_; rintro e w' ⟨rfl, rfl⟩)
  have kw := ((((K2.out.alloc (.cells #[.slice none 0 0] 22)).alloc (.cells #[.bool false] 4)).alloc (.cells #[.slice A na ca] 22)).alloc (.cells #[.slice B nb cb] 22))
  have kl := (((Blk.new w2 22 #[.slice none 0 0]).alloc (.cells #[.bool false] 4)).alloc (.cells #[.slice A na ca] 22)).alloc (.cells #[.slice B nb cb] 22)
  have ki := ((Blk.new (w2.alloc (.cells #[.slice none 0 0] 22)) 4 #[.bool false]).alloc (.cells #[.slice A na ca] 22)).alloc (.cells #[.slice B nb cb] 22)
  have kp := (Blk.new ((w2.alloc (.cells #[.slice none 0 0] 22)).alloc (.cells #[.bool false] 4)) 22 #[.slice A na ca]).alloc (.cells #[.slice B nb cb] 22)
  have kq := Blk.new (((w2.alloc (.cells #[.slice none 0 0] 22)).alloc (.cells #[.bool false] 4)).alloc (.cells #[.slice A na ca] 22)) 22 #[.slice B nb cb]
  have hb5 : Below w.heap.size w ((((w2.alloc (.cells #[.slice none 0 0] 22)).alloc (.cells #[.bool false] 4)).alloc (.cells #[.slice A na ca] 22)).alloc (.cells #[.slice B nb cb] 22)) :=
    (((HB2.out.alloc HB2.out.size _).alloc (by have := HB2.out.size; simp; omega) _).alloc (by have := HB2.out.size; simp; omega) _).alloc (by have := HB2.out.size; simp; omega) _
  simp only [World.size_alloc] at kw kl ki kp kq
  have hsz5 : ((((w2.alloc (.cells #[.slice none 0 0] 22)).alloc (.cells #[.bool false] 4)).alloc (.cells #[.slice A na ca] 22)).alloc (.cells #[.slice B nb cb] 22)).heap.size = w2.heap.size + 4 := by simp
  have hw2 : w.heap.size < w2.heap.size := K2.out.lt
  generalize (((w2.alloc (.cells #[.slice none 0 0] 22)).alloc (.cells #[.bool false] 4)).alloc (.cells #[.slice A na ca] 22)).alloc (.cells #[.slice B nb cb] 22) = w5 at *
  have HS5 := hid hsz5
  clear hsz5
  refine wpIn_changes (by omega) la lb A B na ca nb cb (w2.heap.size + 1 + 1) (w2.heap.size + 1 + 1 + 1) rfl hna hnb hsa hsb hma hmb
    (CI w w.heap.size w2.heap.size (w2.heap.size + 1) (w5.heap.size + 4) f P la lb) (fun _ => False) ?hI (fun _ _ _ h _ _ => h.elim) ?hI1 ((kp.cell 0).trans rfl) ((kq.cell 0).trans rfl) ?h0
    (fun D x y gx => { tmps := #[Value.slice A na ca, Value.slice B nb cb, Value.func (Fn.func f) #[] #[], undef, undef, Value.pointer (some ⟨w.heap.size, 0, none⟩), Value.slice none 0 0, Value.int .i64 0, Value.pointer (some ⟨w2.heap.size, 0, none⟩), Value.pointer (some ⟨w2.heap.size + 1, 0, none⟩), Value.int .i64 D, Value.pointer (some ⟨gx, 0, none⟩), Value.slice A na ca, Value.bool true, Value.bool false, Value.bool false, Value.slice B nb cb, Value.bool true, Value.bool false, Value.bool false, Value.slice A na ca, Value.slice B nb cb, Value.func (Fn.func 60) #[] #[Value.pointer (some ⟨w2.heap.size + 1 + 1, 0, none⟩), Value.pointer (some ⟨w2.heap.size + 1 + 1 + 1, 0, none⟩)], Value.int .i64 D, Value.agg #[.bool x, .bool y], undef, undef, undef, undef, undef, undef, undef, undef, undef, undef, undef, undef, undef, undef, undef, undef, undef, undef, undef, undef, undef], defers := [] }) ?assign ?body ?done ?stop
  case hI =>
    rintro i j W W' row ⟨v, ins, t, R, h1, h2, h3, h4, h5, h6⟩ hg hr
    have := HS5.out
    refine ⟨v, ins, t, R, h1, h2.grown hg (fun e => by have := hr _ e.symm; omega), h3.grown hg (fun e => by have := hr _ e.symm; omega), h4.grown hg (fun e => by have := hr _ e.symm; omega), ?_, h6.grown hg h6.size (fun k e => by have := hr _ e; omega)⟩
    refine World.ownsRow.kept h5 hg ?_
    cases ho : v.ownBlock with
    | none => exact .inl rfl
    | some g => exact .inr fun e => by have h7 := (World.ownsRow.lt h5 g ho).1; have := hr g e.symm; omega
  case hI1 =>
    rintro i j W ⟨v, ins, t, R, h1, h2, h3, h4, h5, h6⟩
    exact ⟨HA.out.below h6, HB.out.below h6⟩
  case h0 =>
    exact ⟨_, false, 0, [], ⟨at_start la lb, HP.out.symm, upto_zero _⟩, kw, kl, ki, ownSp_nil _ _, hb5⟩
  case assign =>
    intro l D x y W K hK
    gi_wp2
    exact hK
  case body =>
    rintro l i j W gx hi hj hne hgx ⟨v, ins, t, R, HC, bw, bl, bi, ho, hb⟩ bx
    obtain ⟨n1, n2, n3, n4, n5⟩ := HC.out.1.next hsa.out hsb.out hne
    have hpx : ∀ z, t ≤ z → z < nxtD la lb i j → (fun x => P (memB la x) (memB lb x)) z = ins := fun z g1 g2 => by
      obtain ⟨e1, e2⟩ := HC.out.1.mem hsa.out hsb.out g1 g2
      show P (memB la z) (memB lb z) = ins
      rw [e1, e2, HC.out.2.1]
    have hcoll := HC.out.2.2
    obtain ⟨D, hD⟩ : ∃ D, nxtD la lb i j = D := ⟨_, rfl⟩
    have hcl : ins = true → t < D := fun h => by
      rcases n3 with n3 | n3
      · exfalso
        have := HC.out.2.1
        rw [n3.1, n3.2.1, h] at this
        have h0 : odd 0 = false := rfl
        rw [h0, HP.out] at this
        cases this
      · rw [← hD]; exact n3
    dsimp only
    rw [hD] at n1 n2 n3 n4 n5 hpx ⊢
    have HN1 := hid n1
    have HN2 : Hid (t ≤ D ∧ 0 ≤ D ∧ D ≤ 65536 ∧ (t < D ∨ D = 0)) := ⟨n2, n4, n5, by
      rcases n3 with n3 | n3
      · by_cases g : D = 0
        · exact .inr g
        · left; omega
      · exact .inl n3⟩
    have HPX := hid hpx
    have HCO := hid hcoll
    have HCL := hid hcl
    have HD := hid hD
    clear n1 n2 n3 hpx hcoll hne HC hD hcl hi hj
    generalize nxtI la lb i j = i' at *
    generalize nxtJ la lb i j = j' at *
    obtain ⟨x, hx⟩ : ∃ x, odd i' = x := ⟨_, rfl⟩
    obtain ⟨y, hy⟩ : ∃ y, odd j' = y := ⟨_, rfl⟩
    rw [hx, hy] at bx ⊢
    have HX := hid hx
    have HY := hid hy
    obtain ⟨A0, cv, rfl, hcv, _, _⟩ := ho.view
    obtain ⟨r, hr⟩ : ∃ r, P x y = r := ⟨_, rfl⟩
    have HR := hid hr
    have HW : Hid (w5.heap.size + 4 ≤ gx ∧ gx < W.heap.size) := ⟨hgx, bx.lt⟩
    have h2W : w2.heap.size + 1 < W.heap.size := bi.lt
    have HBW := hid bw
    have HBL := hid bl
    have HBI := hid bi
    have HBX := hid bx
    have HO := hid ho
    have HB6 := hid hb
    clear hx hy hr bw bl bi bx ho hb hgx
    gi_upto_region 8 with fail
    gi_cut [29] from 25 (fun s29 wx => s29 = .bool (r == ins) ∧ Below W.heap.size W wx)
    case first =>
      have HCE : Hid (∀ W1, Below W.heap.size W W1 → W1.cell? ⟨w.heap.size, 0, none⟩ = some (.func (.func f) #[] #[]) ∧ W1.cell? ⟨w2.heap.size + 1, 0, none⟩ = some (.bool ins) ∧ W1.cell? ⟨gx, 0, none⟩ = some (.bool x) ∧ W1.cell? ⟨gx, 1, none⟩ = some (.bool y)) := fun W1 hb =>
        ⟨((HBW.out.below hb HBW.out.lt).cell 0).trans rfl, ((HBI.out.below hb HBI.out.lt).cell 0).trans rfl, ((HBX.out.below hb HBX.out.lt).cell 0).trans rfl, ((HBX.out.below hb HBX.out.lt).cell 1).trans rfl⟩
      have HFF : Hid (∀ W1, Below W.heap.size W W1 → Calls Try.prog f #[.agg #[.bool x, .bool y]] W1 fun e w' => e = .returned (.bool r) ∧ Below W.heap.size W w') := fun W1 hb =>
        (HF.out x y W1).mono fun e w' ⟨he, h1⟩ => ⟨by rw [he, HR.out], hb.trans (h1.mono hb.size)⟩
      obtain ⟨k0, k1, k2, k3⟩ := HCE.out W (Below.refl _ _)
      gi_region_with_o (refine ⟨trivial, ?_⟩; ((with_reducible refine (CallsIn.inRound l (callsIn_wide.2 (HFF.out _ (by repeat (first | exact Below.refl _ _ | assumption | refine Below.alloc ?_ (by first | (simp; done) | (simp; omega) | omega) _ | refine Below.setCell ?_ (by first | (simp; done) | (simp; omega) | omega) _ | refine Below.drew ?_))))).mono ?_); rintro e w3 ⟨rfl, h3⟩; obtain ⟨k0, k1, k2, k3⟩ := HCE.out _ h3))
      all_goals
        gi_wp2
        gi_meet
        exact ⟨rfl, h3⟩
    case rest =>
      obtain ⟨rfl, hb8⟩ := hcut
      have HBW8 := hid (HBW.out.below hb8 HBW.out.lt)
      have HBL8 := hid (HBL.out.below hb8 HBL.out.lt)
      have HBI8 := hid (HBI.out.below hb8 HBI.out.lt)
      have HO8 := hid (HO.out.below hb8)
      have HB68 := hid (HB6.out.trans (hb8.mono HB6.out.size))
      have HK8 : Hid (W.heap.size ≤ wc.heap.size ∧ ∀ r, w5.heap.size ≤ r → r < w5.heap.size + 4 → wc.heap[r]? = W.heap[r]?) := ⟨hb8.size, fun r h1 h2 => hb8.block r (by have := HW.out; omega)⟩
      have hW8 : Hid (w5.heap.size + 4 ≤ wc.heap.size) := by have := HW.out; have := hb8.size; show _ ≤ _; omega
      have hlt8 : w2.heap.size + 1 < wc.heap.size := HBI8.out.lt
      have c8 := (HBL8.out.cell 0).trans (b := some (Value.slice A0 R.length cv)) rfl
      have c9 := (HBI8.out.cell 0).trans (b := some (Value.bool ins)) rfl
      have f8 := HBL8.out.frozen 0
      have f9 := HBI8.out.frozen 0
      clear HBW HBL HBI HO HB6 hb8 HBX
      have HPI : Hid (P (odd i') (odd j') = r) := by show _ = _; rw [HX.out, HY.out, HR.out]
      cases hri : (r == ins)
      · cases hins : ins
        · -- a span is opened
          subst hins
          have hrt : r = true := by cases r <;> simp_all
          subst hrt
          have HCN : Hid (Coll (fun x => P (memB la x) (memB lb x)) true D (R ++ [(D, 0)])) := coll_open HCO.out HN2.out.1 HN2.out.2.1 HN2.out.2.2.2 HPX.out
          obtain ⟨i0, hi, hz0, hz1, hz2⟩ := info_parts info_sp
          have HI := hid hi
          have HZ := hid hz0
          have HZ1 := hid hz1
          have HZ2 := hid hz2
          have HLEN : Hid (R.length ≤ 70000) := by
            have h1 : Coll (fun x => P (memB la x) (memB lb x)) false t R := HCO.out
            have := IsSet.len_bd (show IsSet R from h1.1)
            show _ ≤ _
            omega
          clear hi hz0 hz1 hz2 hri HCO
          have HOB : Hid (∀ g, some g = (Value.slice A0 R.length cv).ownBlock → w5.heap.size + 4 ≤ g) := fun g e => (World.ownsRow.lt HO8.out g e.symm).1
          have HNX : Hid (∀ (w9 : World) (g9 c9 : Nat), (wc.alloc (.cells #[.int .i64 D, .int .i64 0] 34)).grownBy w9 (Value.slice A0 R.length cv).ownBlock → w9.ownsRow (w5.heap.size + 4) 34 2 (.slice (some ⟨g9, 0, none⟩) (R.length + 1) c9) (R.length + 1) (cellsOf R ++ [.int .i64 D, .int .i64 0]) →
              Blk w9 w.heap.size 60 #[.func (.func f) #[] #[]] ∧ Blk w9 w2.heap.size 22 #[.slice A0 R.length cv] ∧ Blk w9 (w2.heap.size + 1) 4 #[.bool false] ∧ OwnSp w9 (w5.heap.size + 4) (.slice (some ⟨g9, 0, none⟩) (R.length + 1) c9) (R ++ [(D, 0)]) ∧ Below w.heap.size w w9 ∧ W.heap.size ≤ w9.heap.size ∧ ∀ r, w5.heap.size ≤ r → r < w5.heap.size + 4 → w9.heap[r]? = W.heap[r]?) := fun w9 g9 c9 hg ho9 => by
            have h5 := HS5.out
            have h8 := hW8.out
            refine ⟨(HBW8.out.alloc _).grown hg (fun e => by have := HOB.out _ e; omega), (HBL8.out.alloc _).grown hg (fun e => by have := HOB.out _ e; omega), (HBI8.out.alloc _).grown hg (fun e => by have := HOB.out _ e; omega), ?_, ?_, ?_, ?_⟩
            · unfold OwnSp; rw [cells_append, List.length_append]; exact ho9
            · exact (HB68.out.alloc HB68.out.size _).grown hg (by have := HB68.out.size; simp; omega) (fun k e => by have := HOB.out k e.symm; omega)
            · have := hg.size; have := HK8.out.1; simp at *; omega
            · intro r h1 h2
              rw [hg.block r (by simp; omega) (fun e => by have := HOB.out r e; omega)]
              exact (Below.heap_alloc wc _ r (by omega)).trans (HK8.out.2 r h1 h2)
          have hne89 : w2.heap.size ≠ w2.heap.size + 1 := by omega
          gi_wp2_with (gi_at_builtin; refine wpListIn_append_own _ rfl _ _ 22 rfl (w5.heap.size + 4) 34 i0 (.agg #[.int .i64 0, .int .i64 0]) 2 16 Try.underlying22 HI.out HZ.out HZ1.out HZ2.out rfl (by decide) _ _ _ rfl (HO8.out.alloc _) ⟨wc.heap.size, 0, none⟩ 1 1 [.int .i64 D, .int .i64 0] rfl rfl (cell_two_new rfl _ _ _) (by simp [Value.oneCell']) (by unfold maxLen; have := HLEN.out; omega) (by have := HLEN.out; omega) (by have := hW8.out; simp; omega) ?_; intro v' w9 hown1 hgrow1 _; obtain ⟨g9, cv9, rfl⟩ := ownsRow_succ hown1; obtain ⟨y1, y2, y3, y4, y5, y6, y7⟩ := HNX.out w9 g9 cv9 hgrow1 hown1; clear hown1 hgrow1; have z8 := (y2.cell 0).trans (b := some (Value.slice A0 R.length cv)) rfl; have z9 := (y3.cell 0).trans (b := some (Value.bool false)) rfl; have e8 := y2.frozen 0; have e9 := y3.frozen 0; have e10 := y2.lt; have e11 := y3.lt; have HY1 := hid y1; have HY2 := hid y2; have HY3 := hid y3; have HY4 := hid y4; have HY5 := hid y5; have HY6 : Hid (W.heap.size ≤ w9.heap.size ∧ ∀ r, w5.heap.size ≤ r → r < w5.heap.size + 4 → w9.heap[r]? = W.heap[r]?) := ⟨y6, y7⟩; clear y1 y2 y3 y4 y5 y6 y7)
          have HCM : Hid (CM0 w w.heap.size w2.heap.size (w2.heap.size + 1) f (.slice A0 R.length cv) false w5.heap.size W w9) := ⟨HY1.out, HY2.out, HY3.out, HY5.out, HY6.out.1, HY6.out.2⟩
          exact ((CM0.setL HCM.out HY4.out (by omega) (by omega) (by omega) (by have := HS5.out; omega) (by have := HS5.out; omega)).setI true (by omega) (by omega) (by omega) (by have := HS5.out; omega) (by have := HS5.out; omega)).ci ⟨HN1.out, HPI.out.symm, HCN.out⟩
        · -- the span that is open is closed
          subst hins
          have hrf : r = false := by cases r <;> simp_all
          subst hrf
          obtain ⟨R0, f0, hR0, hcol⟩ := coll_close HCO.out (HCL.out rfl) HN2.out.2.2.1 HPX.out
          have hRl : R.length = R0.length + 1 := by rw [hR0]; simp
          have hE : ext R D = R0 ++ [(f0, D)] := by rw [hR0, ext_snoc]
          have HCN : Hid (Coll (fun x => P (memB la x) (memB lb x)) false D (ext R D)) := by show Coll _ _ _ _; rw [hE]; exact hcol
          obtain ⟨g, cg, hv, hgb, hgl, hc0, hfz⟩ := HO8.out.head hRl
          generalize R0.length = q at *
          have hq7 : q ≤ 70000 := by
            have h1 := HN1.out.t1
            have h2 : IsSet (R0 ++ [(f0, D)]) := hcol.1
            have := h2.len_bd
            rw [← hE] at this
            have h3 : (ext R D).length = q + 1 := ext_len hRl D
            omega
          rw [hv] at HO8 HBL8
          have hcv : R.length = q + 1 := hRl
          have hAe : A0 = some ⟨g, 0, none⟩ ∧ cv = cg := by rw [hcv] at hv; injection hv with a b c; exact ⟨a, c⟩
          obtain ⟨rfl, rfl⟩ := hAe
          rw [hcv] at c8
          have HRL := hid hRl
          have HCM : Hid (CM w w.heap.size w2.heap.size (w2.heap.size + 1) (w5.heap.size + 4) f (.slice (some ⟨g, 0, none⟩) (q + 1) cv) true R w5.heap.size W wc) := ⟨HBW8.out, HBL8.out, HBI8.out, HO8.out, HB68.out, HK8.out.1, HK8.out.2⟩
          have hgi : g ≠ w2.heap.size + 1 := by have := HS5.out; omega
          have hig : w2.heap.size + 1 ≠ g := by omega
          clear hv hRl hE hcol hR0 hcv hri HCO HBL8 HO8
          gi_wp2
          exact ((HCM.out.setE HRL.out D (by have := HS5.out; omega) (by have := HS5.out; omega) (by have := HS5.out; omega) (by have := HS5.out; omega) (by omega)).setI false (by omega) (by omega) (by omega) (by have := HS5.out; omega) (by have := HS5.out; omega)).ci ⟨HN1.out, HPI.out.symm, HCN.out⟩
      · have hri' : r = ins := by simpa using hri
        subst hri'
        have HCN : Hid (Coll (fun x => P (memB la x) (memB lb x)) r D R) := coll_same HCO.out HN2.out.1 HPX.out
        clear hri
        gi_wp2
        exact ⟨HK8.out, _, r, D, R, ⟨HN1.out, HPI.out.symm, HCN.out⟩, HBW8.out, HBL8.out, HBI8.out, HO8.out, HB68.out⟩
  case done =>
    rintro D W hD hD4 ⟨v, ins, t, R, HC, bw, bl, bi, ho, hb⟩ hK
    have HR : Hid (R = combL P la lb) := by
      have e1 : odd (2 * na) = false := odd_even na
      have e2 : odd (2 * nb) = false := odd_even nb
      have h1 := HC.out.2.1
      have h2 := HC.out.2.2
      rw [e1, e2, HP.out] at h1
      rw [h1] at h2
      have hend : nxtD la lb (2 * na) (2 * nb) = 65537 := (nxt_end hsa.out hsb.out (by rw [hna.out]; exact Nat.le_refl _) (by rw [hnb.out]; exact Nat.le_refl _)).2 ⟨by rw [hna.out], by rw [hnb.out]⟩
      exact coll_done h2 HC.out.1.t1 fun x g1 g2 => by
        obtain ⟨m1, m2⟩ := HC.out.1.mem hsa.out hsb.out g1 (by rw [hend]; omega)
        show P (memB la x) (memB lb x) = false
        rw [m1, m2, e1, e2, HP.out]
    have c8 := (bl.cell 0).trans (b := some v) rfl
    have HK : Hid (W.heap[D]? = some (Obj.deferred (some []))) := hK
    have hown : (W.putObj D (.deferred none)).ownsRow (w5.heap.size + 4) 34 2 v R.length (cellsOf R) := by
      refine World.ownsRow.kept ho (grownBy_putObj' W D _) ?_
      cases ho' : v.ownBlock with
      | none => exact .inl rfl
      | some g => exact .inr fun e => by have h7 := (World.ownsRow.lt ho g ho').1; have := Option.some.inj e; omega
    have hob : OwnSp (W.putObj D (.deferred none)) (w5.heap.size + 4) v R := hown
    rw [HR.out] at hob
    have HOB := hid hob
    have HBB : Hid (Below w.heap.size w (W.putObj D (.deferred none))) := below_put hb (Nat.le_refl _) (by have := HS5.out; omega) _
    have hsz : Hid (w.heap.size ≤ w5.heap.size + 4) := by have := HS5.out; show _ ≤ _; omega
    obtain ⟨A0, cv, rfl, _, _, _⟩ := ho.view
    clear hK hown hob HC HR ho bw bl bi hb
    gi_wp2
    refine ⟨by simp, .inl ⟨_, _, rfl, run_takeDeferred HK.out, ?_⟩⟩
    refine ⟨.tuple #[.slice A0 R.length cv, .int .i64 0], by simp [results, Try.f42, go_sem], _, rfl, HOB.out.mono hsz.out, HBB.out⟩
  case stop =>
    intro D W _ _ h _
    exact h.elim
end Go.Proofs.Ytpafnakepgjmnaa
