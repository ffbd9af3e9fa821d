/- WholeLimits' function: the two numbers are made. Conditions: none. -/
import Derived.Test.YtgnidjhfiagfnaaRj
import Derived.Deep.LoopGhost
namespace Go.Proofs.Ytgnidjhfiagfnaa
open Go.RowKit

theorem vals_more (j x : Nat) : vals (List.replicate (j + 1) x) = vals (List.replicate j x) ++ [.int .u16 (x : Int)] := by
  rw [List.replicate_succ', vals_snoc_nat]

theorem sl_rep {w : World} {base : Nat} {A : Option Addr} {cap j x : Nat} (hx : x < 65536) (hj : j ≤ 4000) (h : w.ownsRow base 22 1 (.slice A j cap) j (vals (List.replicate j x))) : Sl w (.slice A j cap) (List.replicate j x) := by
  have e : (List.replicate j x).length = j := List.length_replicate
  have := sl_own (L := List.replicate j x) (A := A) (cap := cap) (base := base) (w := w) (fun y hy => by rw [(List.mem_replicate.1 hy).2]; exact hx) (by rw [e]; omega) (by rw [e]; exact h)
  rwa [e] at this

theorem nth_rep {N x j : Nat} (h : j < N) : nth (List.replicate N x) j = x := by
  simp [nth, List.getD_eq_getElem?_getD, h]

theorem sl_heap {w w' : World} {ga oa n c : Nat} {l : List Nat} (h : Sl w (.slice (some ⟨ga, oa, none⟩) n c) l) (_h0 : l.length = n) (_hn : 0 < n) (e : w'.heap[ga]? = w.heap[ga]?) : Sl w' (.slice (some ⟨ga, oa, none⟩) n c) l := by
  obtain ⟨h1, h2, A, c', e2, h3, h4, hA⟩ := h
  refine ⟨h1, h2, A, c', e2, h3, h4, fun hne => ?_⟩
  obtain ⟨b, off, e5, h6, h7⟩ := hA hne
  injection e2 with e3
  rw [e5] at e3
  injection e3 with e3
  injection e3 with e3
  subst e3
  refine ⟨ga, off, e5, ?_, fun j hj => ?_⟩
  · have := Array.getElem?_eq_getElem h6
    rw [← e] at this
    exact (Array.getElem?_eq_some_iff.1 this).1
  · rw [← h7 j hj]
    unfold World.cell?
    rw [e]

theorem valid_t {w : World} {v : Value} {x b : Bool} {l : List Nat} (h : Wh w v x l) (hv : validB x l = b) : Calls Try.prog 20 #[v] w fun e w' => e = .returned (.bool b) ∧ Below w.heap.size w w' := by
  have := valid_wh h
  rwa [hv] at this

theorem lim_text {w : World} {v : Value} {x : Bool} {l : List Nat} {S : ByteArray} (h : Wh w v x l) (hv : validB x l = true) (hS : strOfNums (asInts (form x (val l))) = S) :
    Calls Try.prog 21 #[v] w fun e w' => e = .returned (.tuple #[.string S, .int .i64 0]) ∧ Below w.heap.size w w' := by
  rw [← hS]; exact text_wh h hv

theorem lim_shape {w : World} {v : Value} {z : Int} (h : WhZ w v z) : ∃ (sg : Bool) (A : Option Addr) (n c : Nat), v = .agg #[.bool sg, .slice A n c] := by
  obtain ⟨A, c, e, -⟩ := h
  exact ⟨_, A, _, c, e⟩

theorem lim_parse {w : World} {s : ByteArray} {z : Int} (hs2 : (unsigned s).size ≤ 4933) (h : textB s = true) (hl : Lz 1024 z) (hz : textZ s = z) :
    Calls Try.prog 23 #[.string s] w fun e w' => ∃ (sg : Bool) (A : Option Addr) (n c : Nat), e = .returned (.tuple #[.agg #[.bool sg, .slice A n c], .int .i64 0]) ∧ WhZ w' (.agg #[.bool sg, .slice A n c]) z ∧ Below w.heap.size w w' := by
  subst hz
  refine (parse_yes2 hs2 h hl).mono ?_
  rintro e w' ⟨v, rfl, h1, h2⟩
  obtain ⟨sg, A, n, c, rfl⟩ := lim_shape h1
  exact ⟨sg, A, n, c, rfl, h1, h2⟩

theorem lim_over {w : World} {s : ByteArray} (hsz : s.size ≤ 4611686018427387904) (h : textB s = true) (hl : ¬ Lz 1024 (textZ s)) :
    Calls Try.prog 23 #[.string s] w fun e w' => ∃ (sg : Bool) (A : Option Addr) (n c : Nat), e = .returned (.tuple #[.agg #[.bool sg, .slice A n c], .int .i64 3]) ∧ Below w.heap.size w w' := by
  refine (parse_over hsz h hl).mono ?_
  rintro e w' ⟨v, rfl, h1, h2⟩
  obtain ⟨sg, A, n, c, rfl⟩ := lim_shape h1
  exact ⟨sg, A, n, c, rfl, h2⟩

theorem la13 {w : World} {va vb : Value} {x y : Bool} {la lb : List Nat} {E Z : Int} (hA : Wh w va x la) (hB : Wh w vb y lb) (h1 : code (validB x la && validB y lb) (zv x la + zv y lb) = E) (h2 : resz (validB x la && validB y lb) (zv x la + zv y lb) = Z) :
    Calls Try.prog 13 #[va, vb] w fun e w' => ∃ (sg : Bool) (A : Option Addr) (n c : Nat), e = .returned (.tuple #[.agg #[.bool sg, .slice A n c], .int .i64 E]) ∧ WhZ w' (.agg #[.bool sg, .slice A n c]) Z ∧ Below w.heap.size w w' := by
  subst h1 h2
  refine (add_wh hA hB).mono ?_
  rintro e w' ⟨v, rfl, h1, h2⟩
  obtain ⟨sg, A, n, c, rfl⟩ := lim_shape h1
  exact ⟨sg, A, n, c, rfl, h1, h2⟩

theorem la14 {w : World} {va vb : Value} {x y : Bool} {la lb : List Nat} {E Z : Int} (hA : Wh w va x la) (hB : Wh w vb y lb) (h1 : code (validB x la && validB y lb) (zv x la - zv y lb) = E) (h2 : resz (validB x la && validB y lb) (zv x la - zv y lb) = Z) :
    Calls Try.prog 14 #[va, vb] w fun e w' => ∃ (sg : Bool) (A : Option Addr) (n c : Nat), e = .returned (.tuple #[.agg #[.bool sg, .slice A n c], .int .i64 E]) ∧ WhZ w' (.agg #[.bool sg, .slice A n c]) Z ∧ Below w.heap.size w w' := by
  subst h1 h2
  refine (sub_wh hA hB).mono ?_
  rintro e w' ⟨v, rfl, h1, h2⟩
  obtain ⟨sg, A, n, c, rfl⟩ := lim_shape h1
  exact ⟨sg, A, n, c, rfl, h1, h2⟩

theorem la15 {w : World} {va vb : Value} {x y : Bool} {la lb : List Nat} {E Z : Int} (hA : Wh w va x la) (hB : Wh w vb y lb) (h1 : code (validB x la && validB y lb) (zv x la * zv y lb) = E) (h2 : resz (validB x la && validB y lb) (zv x la * zv y lb) = Z) :
    Calls Try.prog 15 #[va, vb] w fun e w' => ∃ (sg : Bool) (A : Option Addr) (n c : Nat), e = .returned (.tuple #[.agg #[.bool sg, .slice A n c], .int .i64 E]) ∧ WhZ w' (.agg #[.bool sg, .slice A n c]) Z ∧ Below w.heap.size w w' := by
  subst h1 h2
  refine (mul_wh hA hB).mono ?_
  rintro e w' ⟨v, rfl, h1, h2⟩
  obtain ⟨sg, A, n, c, rfl⟩ := lim_shape h1
  exact ⟨sg, A, n, c, rfl, h1, h2⟩

theorem la16 {w : World} {va vb : Value} {x y : Bool} {la lb : List Nat} {E Z : Int} (hA : Wh w va x la) (hB : Wh w vb y lb) (h1 : code (validB x la && validB y lb) (zv x la + zv y lb) = E) (h2 : resz (validB x la && validB y lb) (zv x la + zv y lb) = Z) :
    Calls Try.prog 16 #[va, vb] w fun e w' => ∃ (sg : Bool) (A : Option Addr) (n c : Nat), e = .returned (.tuple #[.agg #[.bool sg, .slice A n c], .int .i64 E]) ∧ WhZ w' (.agg #[.bool sg, .slice A n c]) Z ∧ Below w.heap.size w w' := by
  subst h1 h2
  refine (radd_wh hA hB).mono ?_
  rintro e w' ⟨v, rfl, h1, h2⟩
  obtain ⟨sg, A, n, c, rfl⟩ := lim_shape h1
  exact ⟨sg, A, n, c, rfl, h1, h2⟩

theorem la17 {w : World} {va vb : Value} {x y : Bool} {la lb : List Nat} {E Z : Int} (hA : Wh w va x la) (hB : Wh w vb y lb) (h1 : code (validB x la && validB y lb) (zv x la - zv y lb) = E) (h2 : resz (validB x la && validB y lb) (zv x la - zv y lb) = Z) :
    Calls Try.prog 17 #[va, vb] w fun e w' => ∃ (sg : Bool) (A : Option Addr) (n c : Nat), e = .returned (.tuple #[.agg #[.bool sg, .slice A n c], .int .i64 E]) ∧ WhZ w' (.agg #[.bool sg, .slice A n c]) Z ∧ Below w.heap.size w w' := by
  subst h1 h2
  refine (rsub_wh hA hB).mono ?_
  rintro e w' ⟨v, rfl, h1, h2⟩
  obtain ⟨sg, A, n, c, rfl⟩ := lim_shape h1
  exact ⟨sg, A, n, c, rfl, h1, h2⟩

theorem la18 {w : World} {va vb : Value} {x y : Bool} {la lb : List Nat} {E Z : Int} (hA : Wh w va x la) (hB : Wh w vb y lb) (h1 : code (validB x la && validB y lb) (zv x la * zv y lb) = E) (h2 : resz (validB x la && validB y lb) (zv x la * zv y lb) = Z) :
    Calls Try.prog 18 #[va, vb] w fun e w' => ∃ (sg : Bool) (A : Option Addr) (n c : Nat), e = .returned (.tuple #[.agg #[.bool sg, .slice A n c], .int .i64 E]) ∧ WhZ w' (.agg #[.bool sg, .slice A n c]) Z ∧ Below w.heap.size w w' := by
  subst h1 h2
  refine (rmul_wh hA hB).mono ?_
  rintro e w' ⟨v, rfl, h1, h2⟩
  obtain ⟨sg, A, n, c, rfl⟩ := lim_shape h1
  exact ⟨sg, A, n, c, rfl, h1, h2⟩

set_option maxRecDepth 100000 in
set_option maxHeartbeats 20000000 in
theorem limits_any (n k x : Int) (neg : Bool) (w : World) (n0 : -9223372036854775808 ≤ n) (n1 : n ≤ 9223372036854775807) (k0 : -9223372036854775808 ≤ k) (k1 : k ≤ 9223372036854775807) (x0 : 0 ≤ x) (x1 : x ≤ 65535) :
    Calls Try.prog 3 #[.int .i64 n, .int .i64 k, .int .u16 x, .bool neg] w fun e w' => e = .returned (.bool true) ∧ Below w.heap.size w w' := by
  obtain ⟨i0, hi, hz0, hz1, hz2⟩ := info_parts info22
  have P1 : Hid (∀ W, Calls Try.prog 12 #[.int .i64 n, .int .i64 31] W fun e w' => ∃ r : Nat, e = .returned (.int .i64 r) ∧ r < 31 ∧ W = w') := fun W => pick_any n 31 W n0 n1 (by omega) (by omega)
  have P2 : Hid (∀ W, Calls Try.prog 12 #[.int .i64 k, .int .i64 1031] W fun e w' => ∃ r : Nat, e = .returned (.int .i64 r) ∧ r < 1031 ∧ W = w') := fun W => pick_any k 1031 W k0 k1 (by omega) (by omega)
  obtain ⟨xa, hxa⟩ : ∃ xa : Nat, max x 1 = xa := ⟨(max x 1).toNat, by omega⟩
  obtain ⟨xb, hxb⟩ : ∃ xb : Nat, max ((x + 1) % 65536) 1 = xb := ⟨(max ((x + 1) % 65536) 1).toNat, by omega⟩
  have ba : 1 ≤ xa ∧ xa < 65536 := by omega
  have bb : 1 ≤ xb ∧ xb < 65536 := by omega
  obtain ⟨S, hS⟩ : ∃ S, w.heap.size = S := ⟨_, rfl⟩
  go_enter Try.func3, Try.ntmps3
  go_wp2_with fail
  refine (P1.out _).mono ?_
  clear P1
  rintro e w1 ⟨r1, rfl, hr1, rfl⟩
  go_wp2_with fail
  refine (P2.out _).mono ?_
  clear P2
  rintro e w1 ⟨K, rfl, hK, rfl⟩
  obtain ⟨N, hN⟩ : ∃ N : Nat, 1000 + (r1 : Int) = N := ⟨1000 + r1, by omega⟩
  have hN1 : N < 1031 := by omega
  have hN0 : 1000 ≤ N := by omega
  go_wp2
  go_loopw [11] (fun i wr => ∃ (j : Nat) (O : Option Addr) (cap : Nat), j ≤ N ∧ i = .int .i64 j ∧ wr.ownsRow (S + 2) 22 1 (.slice O j cap) j (vals (List.replicate j xa)) ∧ Blk wr S 26 #[.bool neg, .slice O j cap] ∧ Blk wr (S + 1) 26 #[.bool false, .slice none 0 0] ∧ Below S w wr) (fun i _ => N - (intOf i).toNat)
  case atStart =>
    refine ⟨0, none, 0, by omega, rfl, World.ownsRow_nil _ _ _ _, ?_, ?_, ?_⟩
    · have := (Blk.new w 26 #[.bool neg, .slice none 0 0]).alloc (.cells #[.bool false, .slice none 0 0] 26)
      rwa [hS] at this
    · have := Blk.new (w.alloc (.cells #[.bool neg, .slice none 0 0] 26)) 26 #[.bool false, .slice none 0 0]
      rwa [World.size_alloc, hS] at this
    · rw [← hS]; exact (by repeat (first | exact Below.refl _ _ | assumption | refine Below.alloc ?_ (by first | (simp; done) | (simp; omega) | omega) _ | refine Below.setCell ?_ (by first | (simp; done) | (simp; omega) | omega) _ | refine Below.drew ?_))
  case round =>
    obtain ⟨j, O, cap, hj, rfl, own, b0, b1, hb⟩ := hrel
    by_cases hlt : j < N
    · have hji : (j : Int) < (N : Int) := by omega
      have c0 := (b0.cell 0).trans (b := some (Value.bool neg)) rfl
      have c1 := (b0.cell 1).trans (b := some (Value.slice O j cap)) rfl
      have f1 := b0.frozen 1
      have l1 := b0.lt
      have lb := b1.lt
      have la := b0.lt
      have hlow := own.lt
      have o1 := own_blk_ne own b0 (by decide)
      have o2 := own_blk_ne own b1 (by decide)
      have HLW : Hid _ := hlow
      have HO1 : Hid _ := o1
      have HO2 : Hid _ := o2
      clear hlow o1 o2
      go_wp2_with (at_builtin; refine wpList_append_own _ rfl _ _ 24 rfl (S + 2) 22 i0 (.int .u16 0) 1 2 Try.underlying24 hi hz0 hz1 hz2 rfl (by decide) _ _ _ rfl (own.alloc _) ⟨wr.heap.size, 0, none⟩ 1 1 [.int .u16 (xa : Int)] rfl rfl ?c1 ?c2 ?c3 ?c4 ?c5 ?_)
      case c1 => exact cell_one_new _ _ _
      case c2 => intro u hu; simp at hu; subst hu; rfl
      case c3 => unfold maxLen; omega
      case c4 => omega
      case c5 => simp; omega
      intro v' w1 own' hgrow _
      obtain ⟨g', cap', rfl⟩ := ownsRow_succ own'
      rw [← vals_more] at own'
      have m0 := (b0.alloc (.cells #[.int .u16 (xa : Int)] 22)).grown hgrow (fun e => HO1.out e.symm)
      have m1 := (b1.alloc (.cells #[.int .u16 (xa : Int)] 22)).grown hgrow (fun e => HO2.out e.symm)
      have hb2 : Below S w w1 := (hb.alloc (by omega) _).grown hgrow (by simp; omega) (fun k hk => by have := (HLW.out k hk).1; omega)
      have d1 := (m0.cell 1).trans (b := some (Value.slice O j cap)) rfl
      have e1 := m0.frozen 1
      have l2 := m0.lt
      clear own c0 c1 f1 l1 HLW HO1 HO2
      have q1 := ownsRow_setCell_other own' (a := ⟨S, 1, none⟩) (own_blk_ne own' m0 (by decide)) (.slice (some ⟨g', 0, none⟩) (j + 1) cap')
      have q2 := m0.set_ 1 (.slice (some ⟨g', 0, none⟩) (j + 1) cap')
      have q3 := m1.far (p := ⟨S, 1, none⟩) (by simp) (.slice (some ⟨g', 0, none⟩) (j + 1) cap')
      have q4 := hb2.setCell (p := ⟨S, 1, none⟩) (by simp) (.slice (some ⟨g', 0, none⟩) (j + 1) cap')
      have Q : Hid (_ ∧ _ ∧ _ ∧ _) := ⟨q1, q2, q3, q4⟩
      clear q1 q2 q3 q4
      go_wp2
      go_roundw
      case rel => exact ⟨j + 1, some ⟨g', 0, none⟩, cap', by omega, by go_num, Q.out.1, Q.out.2.1, Q.out.2.2.1, Q.out.2.2.2⟩
      case measure => simp [intOf]; omega
    · obtain rfl : N = j := by omega
      have lenA : (List.replicate N xa).length = N := List.length_replicate
      have SA0 := sl_rep ba.2 (by omega) own
      obtain ⟨la, hla⟩ : ∃ la, List.replicate N xa = la := ⟨_, rfl⟩
      have HLA : Hid (List.replicate N xa = la) := hla
      rw [hla] at SA0 lenA
      clear hla
      obtain ⟨ga, oa, rfl, -, -⟩ := sl_some SA0 lenA (by omega)
      have g1 : ga < wr.heap.size := by
        obtain ⟨-, -, A', c', e, -, -, hA⟩ := SA0
        injection e with e1 e2 e3
        obtain ⟨b, off, e4, h5, -⟩ := hA (by intro e; rw [e] at lenA; simp at lenA; omega)
        rw [← e1] at e4
        injection e4 with e4
        injection e4 with e4
        rw [e4]; exact h5
      have g2 : ga ≠ S + 1 := fun e => own_blk_ne own b1 (by decide) (by rw [← e]; rfl)
      obtain ⟨wA, hwA⟩ : ∃ wA, wr = wA := ⟨_, rfl⟩
      obtain ⟨Bs, hBs0⟩ : ∃ Bs, wr.heap.size = Bs := ⟨_, rfl⟩
      have HGA : Hid (ga < Bs ∧ ga ≠ S + 1) := ⟨by rw [← hBs0]; exact g1, g2⟩
      have HSA : Hid (Sl wA (.slice (some ⟨ga, oa, none⟩) N cap) la ∧ la.length = N) := ⟨by rw [← hwA]; exact SA0, lenA⟩
      have SA : Hid (wr.heap[ga]? = wA.heap[ga]?) := by show _ = _; rw [hwA]
      have hBs1 : Bs ≤ wr.heap.size := by omega
      have hBs2 : S + 2 ≤ Bs := by have := b1.lt; omega
      obtain ⟨capA, hcapA⟩ : ∃ c, cap = c := ⟨_, rfl⟩
      rw [hcapA] at b0 HSA
      clear own SA0 lenA g1 g2 hwA hcapA
      obtain ⟨wo, hwo⟩ : ∃ wo : World, wo = wr := ⟨_, rfl⟩
      rw [← hwo] at b0 b1 hb SA hBs1 hBs0 ⊢
      clear hwo
      have hxb' : IntKind.u16.wrap (x + 1) = (x + 1) % 65536 := IntKind.wrap_u16 _
      go_wp2
      go_loopw [12] (fun i wr => ∃ (j : Nat) (O : Option Addr) (cap : Nat), j ≤ K ∧ i = .int .i64 j ∧ wr.ownsRow Bs 22 1 (.slice O j cap) j (vals (List.replicate j xb)) ∧ Blk wr (S + 1) 26 #[.bool false, .slice O j cap] ∧ Blk wr S 26 #[.bool neg, .slice (some ⟨ga, oa, none⟩) N capA] ∧ Hid (wr.heap[ga]? = wA.heap[ga]?) ∧ Below S w wr ∧ Bs ≤ wr.heap.size) (fun i _ => K - (intOf i).toNat)
      case atStart => exact ⟨0, none, 0, by omega, rfl, World.ownsRow_nil _ _ _ _, b1, b0, SA, hb, hBs1⟩
      case round =>
        obtain ⟨j, O, cap, hj, rfl, own, b1, b0, SA, hb, hBs⟩ := hrel
        by_cases hlt : j < K
        · have hji : (j : Int) < (K : Int) := by omega
          have c0 := (b1.cell 0).trans (b := some (Value.bool false)) rfl
          have c1 := (b1.cell 1).trans (b := some (Value.slice O j cap)) rfl
          have f1 := b1.frozen 1
          have l1 := b1.lt
          have lb := b1.lt
          have la := b0.lt
          have hlow := own.lt
          have o1 := own_blk_ne own b0 (by decide)
          have o2 := own_blk_ne own b1 (by decide)
          have HLW : Hid _ := hlow
          have HO1 : Hid _ := o1
          have HO2 : Hid _ := o2
          clear hlow o1 o2
          go_wp2_with (at_builtin; refine wpList_append_own _ rfl _ _ 24 rfl Bs 22 i0 (.int .u16 0) 1 2 Try.underlying24 hi hz0 hz1 hz2 rfl (by decide) _ _ _ rfl (own.alloc _) ⟨wr.heap.size, 0, none⟩ 1 1 [.int .u16 (xb : Int)] rfl rfl ?c1 ?c2 ?c3 ?c4 ?c5 ?_)
          case c1 => exact cell_one_new _ _ _
          case c2 => intro u hu; simp at hu; subst hu; rfl
          case c3 => unfold maxLen; omega
          case c4 => omega
          case c5 => simp; omega
          intro v' w1 own' hgrow _
          obtain ⟨g', cap', rfl⟩ := ownsRow_succ own'
          rw [← vals_more] at own'
          have m0 := (b0.alloc (.cells #[.int .u16 (xb : Int)] 22)).grown hgrow (fun e => HO1.out e.symm)
          have m1 := (b1.alloc (.cells #[.int .u16 (xb : Int)] 22)).grown hgrow (fun e => HO2.out e.symm)
          have hb2 : Below S w w1 := (hb.alloc (by omega) _).grown hgrow (by simp; omega) (fun k hk => by have := (HLW.out k hk).1; omega)
          have hw1 : Below Bs wr w1 := ((Below.refl Bs wr).alloc hBs _).grown hgrow (by simp; omega) (fun k hk => (HLW.out k hk).1)
          have SA1 : Hid (w1.heap[ga]? = wA.heap[ga]?) := (hw1.block ga HGA.out.1).trans SA.out
          have d1 := (m1.cell 1).trans (b := some (Value.slice O j cap)) rfl
          have e1 := m1.frozen 1
          have l2 := m1.lt
          clear own c0 c1 f1 l1 HLW HO1 HO2
          have q1 := ownsRow_setCell_other own' (a := ⟨S + 1, 1, none⟩) (own_blk_ne own' m1 (by decide)) (.slice (some ⟨g', 0, none⟩) (j + 1) cap')
          have q2 := m1.set_ 1 (.slice (some ⟨g', 0, none⟩) (j + 1) cap')
          have q3 := m0.far (p := ⟨S + 1, 1, none⟩) (by simp) (.slice (some ⟨g', 0, none⟩) (j + 1) cap')
          have q4 := hb2.setCell (p := ⟨S + 1, 1, none⟩) (by simp) (.slice (some ⟨g', 0, none⟩) (j + 1) cap')
          have Q : Hid (_ ∧ _ ∧ _ ∧ _) := ⟨q1, q2, q3, q4⟩
          clear q1 q2 q3 q4
          have SA2 : Hid ((w1.setCell ⟨S + 1, 1, none⟩ (.slice (some ⟨g', 0, none⟩) (j + 1) cap')).heap[ga]? = wA.heap[ga]?) := (Below.heap_setCell w1 ⟨S + 1, 1, none⟩ _ ga HGA.out.2).trans SA1.out
          go_wp2
          go_roundw
          case rel => exact ⟨j + 1, some ⟨g', 0, none⟩, cap', by omega, by go_num, Q.out.1, Q.out.2.1, Q.out.2.2.1, SA2, Q.out.2.2.2, by have := hw1.size; simp [World.setCell]; omega⟩
          case measure => simp [intOf]; omega
        · obtain rfl : K = j := by omega
          have SB := sl_rep bb.2 (by omega) own
          obtain ⟨lb, hlb⟩ : ∃ lb, List.replicate K xb = lb := ⟨_, rfl⟩
          have lB : Hid (lb.length = K) := by show _ = _; rw [← hlb]; exact List.length_replicate
          rw [hlb] at SB
          have lA : Hid (la.length = N) := HSA.out.2
          replace SA := sl_heap HSA.out.1 HSA.out.2 (by omega) SA.out
          rw [← hS] at hb
          clear own hlb hBs HSA HGA hBs0
          obtain ⟨E1, hE1⟩ : ∃ E, code (validB neg la && validB false lb) (zv neg la + zv false lb) = E := ⟨_, rfl⟩
          obtain ⟨Z1, hZ1⟩ : ∃ Z, resz (validB neg la && validB false lb) (zv neg la + zv false lb) = Z := ⟨_, rfl⟩
          have HE1 : Hid (_ ∧ _) := ⟨hE1, hZ1⟩
          clear hE1 hZ1
          obtain ⟨E2, hE2⟩ : ∃ E, code (validB neg la && validB false lb) (zv neg la - zv false lb) = E := ⟨_, rfl⟩
          obtain ⟨Z2, hZ2⟩ : ∃ Z, resz (validB neg la && validB false lb) (zv neg la - zv false lb) = Z := ⟨_, rfl⟩
          have HE2 : Hid (_ ∧ _) := ⟨hE2, hZ2⟩
          clear hE2 hZ2
          obtain ⟨E3, hE3⟩ : ∃ E, code (validB neg la && validB false lb) (zv neg la * zv false lb) = E := ⟨_, rfl⟩
          obtain ⟨Z3, hZ3⟩ : ∃ Z, resz (validB neg la && validB false lb) (zv neg la * zv false lb) = Z := ⟨_, rfl⟩
          have HE3 : Hid (_ ∧ _) := ⟨hE3, hZ3⟩
          clear hE3 hZ3
          have c0b0 := (b0.cell 0).trans (b := some (Value.bool neg)) rfl
          have c1b0 := (b0.cell 1).trans (b := some (Value.slice (some ⟨ga, oa, none⟩) N capA)) rfl
          have c0b1 := (b1.cell 0).trans (b := some (Value.bool false)) rfl
          have c1b1 := (b1.cell 1).trans (b := some (Value.slice O K cap)) rfl
          go_wp2_with fail
          refine (la13 (wh_of_sl SA lA) (wh_of_sl SB lB) HE1.out.1 HE1.out.2).mono ?_
          rintro e u101 ⟨s1, A1, n1, c1, rfl, z1, h101⟩
          clear c0b0 c1b0 c0b1 c1b1
          have ch51 := hb.trans (h101.mono hb.size)
          replace b0 := b0.below h101 b0.lt
          replace b1 := b1.below h101 b1.lt
          replace SA := SA.below h101
          replace SB := SB.below h101
          have a102v : Below u101.heap.size u101 (u101.alloc (.cells #[.bool s1, .slice A1 n1 c1] 26)) := (Below.refl _ _).alloc (Nat.le_refl _) _
          have b2 : Blk (u101.alloc (.cells #[.bool s1, .slice A1 n1 c1] 26)) u101.heap.size 26 #[.bool s1, .slice A1 n1 c1] := Blk.new _ _ _
          have ch52 := ch51.trans (a102v.mono ch51.size)
          replace b0 := b0.below a102v b0.lt
          replace b1 := b1.below a102v b1.lt
          replace z1 := z1.below a102v
          replace SA := SA.below a102v
          replace SB := SB.below a102v
          have c0b0 := (b0.cell 0).trans (b := some (Value.bool neg)) rfl
          have c1b0 := (b0.cell 1).trans (b := some (Value.slice (some ⟨ga, oa, none⟩) N capA)) rfl
          have c0b1 := (b1.cell 0).trans (b := some (Value.bool false)) rfl
          have c1b1 := (b1.cell 1).trans (b := some (Value.slice O K cap)) rfl
          have c0b2 := (b2.cell 0).trans (b := some (Value.bool s1)) rfl
          have c1b2 := (b2.cell 1).trans (b := some (Value.slice A1 n1 c1)) rfl
          go_wp2_with fail
          refine (la14 (wh_of_sl SA lA) (wh_of_sl SB lB) HE2.out.1 HE2.out.2).mono ?_
          rintro e u103 ⟨s2, A2, n2, c2, rfl, z2, h103⟩
          clear c0b0 c1b0 c0b1 c1b1 c0b2 c1b2
          have ch53 := ch52.trans (h103.mono ch52.size)
          replace b0 := b0.below h103 b0.lt
          replace b1 := b1.below h103 b1.lt
          replace b2 := b2.below h103 b2.lt
          replace z1 := z1.below h103
          replace SA := SA.below h103
          replace SB := SB.below h103
          have a104v : Below u103.heap.size u103 (u103.alloc (.cells #[.bool s2, .slice A2 n2 c2] 26)) := (Below.refl _ _).alloc (Nat.le_refl _) _
          have b3 : Blk (u103.alloc (.cells #[.bool s2, .slice A2 n2 c2] 26)) u103.heap.size 26 #[.bool s2, .slice A2 n2 c2] := Blk.new _ _ _
          have ch54 := ch53.trans (a104v.mono ch53.size)
          replace b0 := b0.below a104v b0.lt
          replace b1 := b1.below a104v b1.lt
          replace b2 := b2.below a104v b2.lt
          replace z1 := z1.below a104v
          replace z2 := z2.below a104v
          replace SA := SA.below a104v
          replace SB := SB.below a104v
          have c0b0 := (b0.cell 0).trans (b := some (Value.bool neg)) rfl
          have c1b0 := (b0.cell 1).trans (b := some (Value.slice (some ⟨ga, oa, none⟩) N capA)) rfl
          have c0b1 := (b1.cell 0).trans (b := some (Value.bool false)) rfl
          have c1b1 := (b1.cell 1).trans (b := some (Value.slice O K cap)) rfl
          have c0b2 := (b2.cell 0).trans (b := some (Value.bool s1)) rfl
          have c1b2 := (b2.cell 1).trans (b := some (Value.slice A1 n1 c1)) rfl
          have c0b3 := (b3.cell 0).trans (b := some (Value.bool s2)) rfl
          have c1b3 := (b3.cell 1).trans (b := some (Value.slice A2 n2 c2)) rfl
          go_wp2_with fail
          refine (la15 (wh_of_sl SA lA) (wh_of_sl SB lB) HE3.out.1 HE3.out.2).mono ?_
          rintro e u105 ⟨s3, A3, n3, c3, rfl, z3, h105⟩
          clear c0b0 c1b0 c0b1 c1b1 c0b2 c1b2 c0b3 c1b3
          have ch55 := ch54.trans (h105.mono ch54.size)
          replace b0 := b0.below h105 b0.lt
          replace b1 := b1.below h105 b1.lt
          replace b2 := b2.below h105 b2.lt
          replace b3 := b3.below h105 b3.lt
          replace z1 := z1.below h105
          replace z2 := z2.below h105
          replace SA := SA.below h105
          replace SB := SB.below h105
          have a106v : Below u105.heap.size u105 (u105.alloc (.cells #[.bool s3, .slice A3 n3 c3] 26)) := (Below.refl _ _).alloc (Nat.le_refl _) _
          have b4 : Blk (u105.alloc (.cells #[.bool s3, .slice A3 n3 c3] 26)) u105.heap.size 26 #[.bool s3, .slice A3 n3 c3] := Blk.new _ _ _
          have ch56 := ch55.trans (a106v.mono ch55.size)
          replace b0 := b0.below a106v b0.lt
          replace b1 := b1.below a106v b1.lt
          replace b2 := b2.below a106v b2.lt
          replace b3 := b3.below a106v b3.lt
          replace z1 := z1.below a106v
          replace z2 := z2.below a106v
          replace z3 := z3.below a106v
          replace SA := SA.below a106v
          replace SB := SB.below a106v
          have c0b0 := (b0.cell 0).trans (b := some (Value.bool neg)) rfl
          have c1b0 := (b0.cell 1).trans (b := some (Value.slice (some ⟨ga, oa, none⟩) N capA)) rfl
          have c0b1 := (b1.cell 0).trans (b := some (Value.bool false)) rfl
          have c1b1 := (b1.cell 1).trans (b := some (Value.slice O K cap)) rfl
          have c0b2 := (b2.cell 0).trans (b := some (Value.bool s1)) rfl
          have c1b2 := (b2.cell 1).trans (b := some (Value.slice A1 n1 c1)) rfl
          have c0b3 := (b3.cell 0).trans (b := some (Value.bool s2)) rfl
          have c1b3 := (b3.cell 1).trans (b := some (Value.slice A2 n2 c2)) rfl
          have c0b4 := (b4.cell 0).trans (b := some (Value.bool s3)) rfl
          have c1b4 := (b4.cell 1).trans (b := some (Value.slice A3 n3 c3)) rfl
          go_wp2_with fail
          refine (la16 (wh_of_sl SA lA) (wh_of_sl SB lB) HE1.out.1 HE1.out.2).mono ?_
          rintro e u107 ⟨s4, A4, n4, c4, rfl, z4, h107⟩
          clear c0b0 c1b0 c0b1 c1b1 c0b2 c1b2 c0b3 c1b3 c0b4 c1b4
          have ch57 := ch56.trans (h107.mono ch56.size)
          replace b0 := b0.below h107 b0.lt
          replace b1 := b1.below h107 b1.lt
          replace b2 := b2.below h107 b2.lt
          replace b3 := b3.below h107 b3.lt
          replace b4 := b4.below h107 b4.lt
          replace z1 := z1.below h107
          replace z2 := z2.below h107
          replace z3 := z3.below h107
          replace SA := SA.below h107
          replace SB := SB.below h107
          have a108v : Below u107.heap.size u107 (u107.alloc (.cells #[.bool s4, .slice A4 n4 c4] 26)) := (Below.refl _ _).alloc (Nat.le_refl _) _
          have b5 : Blk (u107.alloc (.cells #[.bool s4, .slice A4 n4 c4] 26)) u107.heap.size 26 #[.bool s4, .slice A4 n4 c4] := Blk.new _ _ _
          have ch58 := ch57.trans (a108v.mono ch57.size)
          replace b0 := b0.below a108v b0.lt
          replace b1 := b1.below a108v b1.lt
          replace b2 := b2.below a108v b2.lt
          replace b3 := b3.below a108v b3.lt
          replace b4 := b4.below a108v b4.lt
          replace z1 := z1.below a108v
          replace z2 := z2.below a108v
          replace z3 := z3.below a108v
          replace z4 := z4.below a108v
          replace SA := SA.below a108v
          replace SB := SB.below a108v
          have c0b0 := (b0.cell 0).trans (b := some (Value.bool neg)) rfl
          have c1b0 := (b0.cell 1).trans (b := some (Value.slice (some ⟨ga, oa, none⟩) N capA)) rfl
          have c0b1 := (b1.cell 0).trans (b := some (Value.bool false)) rfl
          have c1b1 := (b1.cell 1).trans (b := some (Value.slice O K cap)) rfl
          have c0b2 := (b2.cell 0).trans (b := some (Value.bool s1)) rfl
          have c1b2 := (b2.cell 1).trans (b := some (Value.slice A1 n1 c1)) rfl
          have c0b3 := (b3.cell 0).trans (b := some (Value.bool s2)) rfl
          have c1b3 := (b3.cell 1).trans (b := some (Value.slice A2 n2 c2)) rfl
          have c0b4 := (b4.cell 0).trans (b := some (Value.bool s3)) rfl
          have c1b4 := (b4.cell 1).trans (b := some (Value.slice A3 n3 c3)) rfl
          have c0b5 := (b5.cell 0).trans (b := some (Value.bool s4)) rfl
          have c1b5 := (b5.cell 1).trans (b := some (Value.slice A4 n4 c4)) rfl
          go_wp2_with fail
          refine (la17 (wh_of_sl SA lA) (wh_of_sl SB lB) HE2.out.1 HE2.out.2).mono ?_
          rintro e u109 ⟨s5, A5, n5, c5, rfl, z5, h109⟩
          clear c0b0 c1b0 c0b1 c1b1 c0b2 c1b2 c0b3 c1b3 c0b4 c1b4 c0b5 c1b5
          have ch59 := ch58.trans (h109.mono ch58.size)
          replace b0 := b0.below h109 b0.lt
          replace b1 := b1.below h109 b1.lt
          replace b2 := b2.below h109 b2.lt
          replace b3 := b3.below h109 b3.lt
          replace b4 := b4.below h109 b4.lt
          replace b5 := b5.below h109 b5.lt
          replace z1 := z1.below h109
          replace z2 := z2.below h109
          replace z3 := z3.below h109
          replace z4 := z4.below h109
          replace SA := SA.below h109
          replace SB := SB.below h109
          have a110v : Below u109.heap.size u109 (u109.alloc (.cells #[.bool s5, .slice A5 n5 c5] 26)) := (Below.refl _ _).alloc (Nat.le_refl _) _
          have b6 : Blk (u109.alloc (.cells #[.bool s5, .slice A5 n5 c5] 26)) u109.heap.size 26 #[.bool s5, .slice A5 n5 c5] := Blk.new _ _ _
          have ch60 := ch59.trans (a110v.mono ch59.size)
          replace b0 := b0.below a110v b0.lt
          replace b1 := b1.below a110v b1.lt
          replace b2 := b2.below a110v b2.lt
          replace b3 := b3.below a110v b3.lt
          replace b4 := b4.below a110v b4.lt
          replace b5 := b5.below a110v b5.lt
          replace z1 := z1.below a110v
          replace z2 := z2.below a110v
          replace z3 := z3.below a110v
          replace z4 := z4.below a110v
          replace z5 := z5.below a110v
          replace SA := SA.below a110v
          replace SB := SB.below a110v
          have c0b0 := (b0.cell 0).trans (b := some (Value.bool neg)) rfl
          have c1b0 := (b0.cell 1).trans (b := some (Value.slice (some ⟨ga, oa, none⟩) N capA)) rfl
          have c0b1 := (b1.cell 0).trans (b := some (Value.bool false)) rfl
          have c1b1 := (b1.cell 1).trans (b := some (Value.slice O K cap)) rfl
          have c0b2 := (b2.cell 0).trans (b := some (Value.bool s1)) rfl
          have c1b2 := (b2.cell 1).trans (b := some (Value.slice A1 n1 c1)) rfl
          have c0b3 := (b3.cell 0).trans (b := some (Value.bool s2)) rfl
          have c1b3 := (b3.cell 1).trans (b := some (Value.slice A2 n2 c2)) rfl
          have c0b4 := (b4.cell 0).trans (b := some (Value.bool s3)) rfl
          have c1b4 := (b4.cell 1).trans (b := some (Value.slice A3 n3 c3)) rfl
          have c0b5 := (b5.cell 0).trans (b := some (Value.bool s4)) rfl
          have c1b5 := (b5.cell 1).trans (b := some (Value.slice A4 n4 c4)) rfl
          have c0b6 := (b6.cell 0).trans (b := some (Value.bool s5)) rfl
          have c1b6 := (b6.cell 1).trans (b := some (Value.slice A5 n5 c5)) rfl
          go_wp2_with fail
          refine (la18 (wh_of_sl SA lA) (wh_of_sl SB lB) HE3.out.1 HE3.out.2).mono ?_
          rintro e u111 ⟨s6, A6, n6, c6, rfl, z6, h111⟩
          clear c0b0 c1b0 c0b1 c1b1 c0b2 c1b2 c0b3 c1b3 c0b4 c1b4 c0b5 c1b5 c0b6 c1b6
          have ch61 := ch60.trans (h111.mono ch60.size)
          replace b0 := b0.below h111 b0.lt
          replace b1 := b1.below h111 b1.lt
          replace b2 := b2.below h111 b2.lt
          replace b3 := b3.below h111 b3.lt
          replace b4 := b4.below h111 b4.lt
          replace b5 := b5.below h111 b5.lt
          replace b6 := b6.below h111 b6.lt
          replace z1 := z1.below h111
          replace z2 := z2.below h111
          replace z3 := z3.below h111
          replace z4 := z4.below h111
          replace z5 := z5.below h111
          replace SA := SA.below h111
          replace SB := SB.below h111
          have a112v : Below u111.heap.size u111 (u111.alloc (.cells #[.bool s6, .slice A6 n6 c6] 26)) := (Below.refl _ _).alloc (Nat.le_refl _) _
          have b7 : Blk (u111.alloc (.cells #[.bool s6, .slice A6 n6 c6] 26)) u111.heap.size 26 #[.bool s6, .slice A6 n6 c6] := Blk.new _ _ _
          have ch62 := ch61.trans (a112v.mono ch61.size)
          replace b0 := b0.below a112v b0.lt
          replace b1 := b1.below a112v b1.lt
          replace b2 := b2.below a112v b2.lt
          replace b3 := b3.below a112v b3.lt
          replace b4 := b4.below a112v b4.lt
          replace b5 := b5.below a112v b5.lt
          replace b6 := b6.below a112v b6.lt
          replace z1 := z1.below a112v
          replace z2 := z2.below a112v
          replace z3 := z3.below a112v
          replace z4 := z4.below a112v
          replace z5 := z5.below a112v
          replace z6 := z6.below a112v
          replace SA := SA.below a112v
          replace SB := SB.below a112v
          have c0b0 := (b0.cell 0).trans (b := some (Value.bool neg)) rfl
          have c1b0 := (b0.cell 1).trans (b := some (Value.slice (some ⟨ga, oa, none⟩) N capA)) rfl
          have c0b1 := (b1.cell 0).trans (b := some (Value.bool false)) rfl
          have c1b1 := (b1.cell 1).trans (b := some (Value.slice O K cap)) rfl
          have c0b2 := (b2.cell 0).trans (b := some (Value.bool s1)) rfl
          have c1b2 := (b2.cell 1).trans (b := some (Value.slice A1 n1 c1)) rfl
          have c0b3 := (b3.cell 0).trans (b := some (Value.bool s2)) rfl
          have c1b3 := (b3.cell 1).trans (b := some (Value.slice A2 n2 c2)) rfl
          have c0b4 := (b4.cell 0).trans (b := some (Value.bool s3)) rfl
          have c1b4 := (b4.cell 1).trans (b := some (Value.slice A3 n3 c3)) rfl
          have c0b5 := (b5.cell 0).trans (b := some (Value.bool s4)) rfl
          have c1b5 := (b5.cell 1).trans (b := some (Value.slice A4 n4 c4)) rfl
          have c0b6 := (b6.cell 0).trans (b := some (Value.bool s5)) rfl
          have c1b6 := (b6.cell 1).trans (b := some (Value.slice A5 n5 c5)) rfl
          have c0b7 := (b7.cell 0).trans (b := some (Value.bool s6)) rfl
          have c1b7 := (b7.cell 1).trans (b := some (Value.slice A6 n6 c6)) rfl
          go_wp2_with fail
          refine (sameL z1 z4).mono ?_
          rintro e u113 ⟨rfl, h113⟩
          clear c0b0 c1b0 c0b1 c1b1 c0b2 c1b2 c0b3 c1b3 c0b4 c1b4 c0b5 c1b5 c0b6 c1b6 c0b7 c1b7
          have ch63 := ch62.trans (h113.mono ch62.size)
          replace b0 := b0.below h113 b0.lt
          replace b1 := b1.below h113 b1.lt
          replace b2 := b2.below h113 b2.lt
          replace b3 := b3.below h113 b3.lt
          replace b4 := b4.below h113 b4.lt
          replace b5 := b5.below h113 b5.lt
          replace b6 := b6.below h113 b6.lt
          replace b7 := b7.below h113 b7.lt
          replace z1 := z1.below h113
          replace z2 := z2.below h113
          replace z3 := z3.below h113
          replace z4 := z4.below h113
          replace z5 := z5.below h113
          replace z6 := z6.below h113
          replace SA := SA.below h113
          replace SB := SB.below h113
          have c0b0 := (b0.cell 0).trans (b := some (Value.bool neg)) rfl
          have c1b0 := (b0.cell 1).trans (b := some (Value.slice (some ⟨ga, oa, none⟩) N capA)) rfl
          have c0b1 := (b1.cell 0).trans (b := some (Value.bool false)) rfl
          have c1b1 := (b1.cell 1).trans (b := some (Value.slice O K cap)) rfl
          have c0b2 := (b2.cell 0).trans (b := some (Value.bool s1)) rfl
          have c1b2 := (b2.cell 1).trans (b := some (Value.slice A1 n1 c1)) rfl
          have c0b3 := (b3.cell 0).trans (b := some (Value.bool s2)) rfl
          have c1b3 := (b3.cell 1).trans (b := some (Value.slice A2 n2 c2)) rfl
          have c0b4 := (b4.cell 0).trans (b := some (Value.bool s3)) rfl
          have c1b4 := (b4.cell 1).trans (b := some (Value.slice A3 n3 c3)) rfl
          have c0b5 := (b5.cell 0).trans (b := some (Value.bool s4)) rfl
          have c1b5 := (b5.cell 1).trans (b := some (Value.slice A4 n4 c4)) rfl
          have c0b6 := (b6.cell 0).trans (b := some (Value.bool s5)) rfl
          have c1b6 := (b6.cell 1).trans (b := some (Value.slice A5 n5 c5)) rfl
          have c0b7 := (b7.cell 0).trans (b := some (Value.bool s6)) rfl
          have c1b7 := (b7.cell 1).trans (b := some (Value.slice A6 n6 c6)) rfl
          go_wp2_with fail
          refine (sameL z2 z5).mono ?_
          rintro e u114 ⟨rfl, h114⟩
          clear c0b0 c1b0 c0b1 c1b1 c0b2 c1b2 c0b3 c1b3 c0b4 c1b4 c0b5 c1b5 c0b6 c1b6 c0b7 c1b7
          have ch64 := ch63.trans (h114.mono ch63.size)
          replace b0 := b0.below h114 b0.lt
          replace b1 := b1.below h114 b1.lt
          replace b2 := b2.below h114 b2.lt
          replace b3 := b3.below h114 b3.lt
          replace b4 := b4.below h114 b4.lt
          replace b5 := b5.below h114 b5.lt
          replace b6 := b6.below h114 b6.lt
          replace b7 := b7.below h114 b7.lt
          replace z1 := z1.below h114
          replace z2 := z2.below h114
          replace z3 := z3.below h114
          replace z4 := z4.below h114
          replace z5 := z5.below h114
          replace z6 := z6.below h114
          replace SA := SA.below h114
          replace SB := SB.below h114
          have c0b0 := (b0.cell 0).trans (b := some (Value.bool neg)) rfl
          have c1b0 := (b0.cell 1).trans (b := some (Value.slice (some ⟨ga, oa, none⟩) N capA)) rfl
          have c0b1 := (b1.cell 0).trans (b := some (Value.bool false)) rfl
          have c1b1 := (b1.cell 1).trans (b := some (Value.slice O K cap)) rfl
          have c0b2 := (b2.cell 0).trans (b := some (Value.bool s1)) rfl
          have c1b2 := (b2.cell 1).trans (b := some (Value.slice A1 n1 c1)) rfl
          have c0b3 := (b3.cell 0).trans (b := some (Value.bool s2)) rfl
          have c1b3 := (b3.cell 1).trans (b := some (Value.slice A2 n2 c2)) rfl
          have c0b4 := (b4.cell 0).trans (b := some (Value.bool s3)) rfl
          have c1b4 := (b4.cell 1).trans (b := some (Value.slice A3 n3 c3)) rfl
          have c0b5 := (b5.cell 0).trans (b := some (Value.bool s4)) rfl
          have c1b5 := (b5.cell 1).trans (b := some (Value.slice A4 n4 c4)) rfl
          have c0b6 := (b6.cell 0).trans (b := some (Value.bool s5)) rfl
          have c1b6 := (b6.cell 1).trans (b := some (Value.slice A5 n5 c5)) rfl
          have c0b7 := (b7.cell 0).trans (b := some (Value.bool s6)) rfl
          have c1b7 := (b7.cell 1).trans (b := some (Value.slice A6 n6 c6)) rfl
          go_wp2_with fail
          refine (sameL z3 z6).mono ?_
          rintro e u115 ⟨rfl, h115⟩
          clear c0b0 c1b0 c0b1 c1b1 c0b2 c1b2 c0b3 c1b3 c0b4 c1b4 c0b5 c1b5 c0b6 c1b6 c0b7 c1b7
          have ch65 := ch64.trans (h115.mono ch64.size)
          replace b0 := b0.below h115 b0.lt
          replace b1 := b1.below h115 b1.lt
          replace b2 := b2.below h115 b2.lt
          replace b3 := b3.below h115 b3.lt
          replace b4 := b4.below h115 b4.lt
          replace b5 := b5.below h115 b5.lt
          replace b6 := b6.below h115 b6.lt
          replace b7 := b7.below h115 b7.lt
          replace z1 := z1.below h115
          replace z2 := z2.below h115
          replace z3 := z3.below h115
          replace z4 := z4.below h115
          replace z5 := z5.below h115
          replace z6 := z6.below h115
          replace SA := SA.below h115
          replace SB := SB.below h115
          clear z1 z2 z3 z4 z5 z6
          clear SB lB HE1 HE2 HE3
          clear b1 b2 b3 b4 b5 b6 b7
          have hvA : validB neg la = decide (N ≤ 1024) := by
            unfold validB
            rw [if_neg (by rw [lA.out]; omega), lA.out, ← HLA.out, nth_rep (by omega)]
            simp; omega
          by_cases hN : N ≤ 1024
          · have hv : Hid (validB neg la = true) := by show _ = _; rw [hvA]; simp [hN]
            have hN2 : (N : Int) ≤ 1024 := by omega
            have hN3 : (true != decide ((N : Int) ≤ 1024)) = false := by simp; omega
            have hN4 : decide ((N : Int) ≤ 1024) = true := by simp; omega
            clear hvA
            have c0b0 := (b0.cell 0).trans (b := some (Value.bool neg)) rfl
            have c1b0 := (b0.cell 1).trans (b := some (Value.slice (some ⟨ga, oa, none⟩) N capA)) rfl
            go_wp2_with fail
            refine (valid_t (wh_of_sl SA lA) hv.out).mono ?_
            rintro e u116 ⟨rfl, h116⟩
            clear c0b0 c1b0
            have ch66 := ch65.trans (h116.mono ch65.size)
            replace b0 := b0.below h116 b0.lt
            replace SA := SA.below h116
            obtain ⟨Tx, hTx⟩ : ∃ T, strOfNums (asInts (form neg (val la))) = T := ⟨_, rfl⟩
            have HT := long_text (x := neg) SA.1 hv.out hTx
            have HTX : Hid (_ ∧ _) := ⟨hTx, HT⟩
            clear hTx HT
            have c0b0 := (b0.cell 0).trans (b := some (Value.bool neg)) rfl
            have c1b0 := (b0.cell 1).trans (b := some (Value.slice (some ⟨ga, oa, none⟩) N capA)) rfl
            go_wp2_with fail
            refine (lim_text (wh_of_sl SA lA) hv.out HTX.out.1).mono ?_
            rintro e u117 ⟨rfl, h117⟩
            clear c0b0 c1b0
            have ch67 := ch66.trans (h117.mono ch66.size)
            replace b0 := b0.below h117 b0.lt
            replace SA := SA.below h117
            have c0b0 := (b0.cell 0).trans (b := some (Value.bool neg)) rfl
            have c1b0 := (b0.cell 1).trans (b := some (Value.slice (some ⟨ga, oa, none⟩) N capA)) rfl
            go_wp2_with fail
            refine (valid_t (wh_of_sl SA lA) hv.out).mono ?_
            rintro e u118 ⟨rfl, h118⟩
            clear c0b0 c1b0
            have ch68 := ch67.trans (h118.mono ch67.size)
            replace b0 := b0.below h118 b0.lt
            replace SA := SA.below h118
            have hlz : Hid (Lz 1024 (zv neg la)) := by
              have h1 := valid_norm SA.1 hv.out
              show Lz _ _
              unfold Lz zv; cases neg <;> simp <;> rw [h1.1.2] <;> exact h1.2.1
            have zA := wh_whz (wh_of_sl (x := neg) SA lA) hv.out
            have hvl : Hid (65536 ^ 999 ≤ val la ∧ val la ≠ 0) := by
              have h1 := norm_ge (valid_norm SA.1 hv.out).1 (by rw [lA.out]; omega)
              rw [lA.out] at h1
              have h2 := pow_mono (a := 999) (b := N - 1) (by omega)
              exact ⟨Nat.le_trans h2 h1, ne_of_pow (Nat.le_trans h2 h1)⟩
            have c0b0 := (b0.cell 0).trans (b := some (Value.bool neg)) rfl
            have c1b0 := (b0.cell 1).trans (b := some (Value.slice (some ⟨ga, oa, none⟩) N capA)) rfl
            go_wp2_with fail
            refine (lim_parse HTX.out.2.2.2.1 HTX.out.2.1 hlz.out HTX.out.2.2.1).mono ?_
            rintro e u119 ⟨s7, A7, n7, c7, rfl, z7, h119⟩
            clear c0b0 c1b0
            have ch69 := ch68.trans (h119.mono ch68.size)
            replace b0 := b0.below h119 b0.lt
            replace zA := zA.below h119
            replace SA := SA.below h119
            have a120v : Below u119.heap.size u119 (u119.alloc (.cells #[.bool s7, .slice A7 n7 c7] 26)) := (Below.refl _ _).alloc (Nat.le_refl _) _
            have b8 : Blk (u119.alloc (.cells #[.bool s7, .slice A7 n7 c7] 26)) u119.heap.size 26 #[.bool s7, .slice A7 n7 c7] := Blk.new _ _ _
            have ch70 := ch69.trans (a120v.mono ch69.size)
            replace b0 := b0.below a120v b0.lt
            replace zA := zA.below a120v
            replace z7 := z7.below a120v
            replace SA := SA.below a120v
            have c0b0 := (b0.cell 0).trans (b := some (Value.bool neg)) rfl
            have c1b0 := (b0.cell 1).trans (b := some (Value.slice (some ⟨ga, oa, none⟩) N capA)) rfl
            have c0b8 := (b8.cell 0).trans (b := some (Value.bool s7)) rfl
            have c1b8 := (b8.cell 1).trans (b := some (Value.slice A7 n7 c7)) rfl
            go_wp2
            obtain ⟨w9, hw9⟩ : ∃ w9, (u119.alloc (.cells #[.bool s7, .slice A7 n7 c7] 26)) = w9 := ⟨_, rfl⟩
            go_loopg [25, 29] 200 (fun g sv iv wr => ∃ (j : Nat) (T : ByteArray), j + g = 200 ∧ sv = .string T ∧ iv = .int .i64 j ∧ Hid (byt T = form neg (val la * 10 ^ j) ∧ T.size ≤ 5200 + j) ∧ Hid (w9 = wr))
            case atStart => exact ⟨0, Tx, by omega, rfl, rfl, ⟨by rw [HTX.out.2.2.2.2.1, Nat.pow_zero, Nat.mul_one], by have := HTX.out.2.2.2.2.2; omega⟩, hw9.symm⟩
            case round =>
              obtain ⟨j, T, hj, rfl, rfl, HB, hw⟩ := hrel
              have hTs : T.size ≤ 5400 := by have := HB.out.2; omega
              by_cases hlt : j < 200
              · have hb1 : Hid (byt (T ++ (⟨#[48]⟩ : ByteArray)) = form neg (val la * 10 ^ (j + 1))) := zeros_text hvl.out.2 HB.out.1 (by unfold byt; simp)
                have hsz : Hid ((T ++ (⟨#[48]⟩ : ByteArray)).size ≤ 5200 + (j + 1)) := by have := HB.out.2; show _ ≤ _; rw [ByteArray.size_append]; show _ + 1 ≤ _; omega
                go_wp2
                go_roundg (gk - 1)
                case measure => omega
                case rel => exact ⟨j + 1, _, by omega, rfl, by go_num, ⟨hb1.out, hsz.out⟩, hw⟩
              · obtain rfl : 200 = j := by omega
                have ho := zeros_over hvl.out.1 HB.out.1
                have HO : Hid (_ ∧ _) := ⟨ho, HB.out.2⟩
                clear ho
                obtain rfl := hw.out
                clear c0b0 c1b0 c0b8 c1b8
                rw [hw9] at b0
                rw [hw9] at b8
                rw [hw9] at SA
                rw [hw9] at ch70
                rw [hw9] at zA
                rw [hw9] at z7
                clear hw9
                have c0b0 := (b0.cell 0).trans (b := some (Value.bool neg)) rfl
                have c1b0 := (b0.cell 1).trans (b := some (Value.slice (some ⟨ga, oa, none⟩) N capA)) rfl
                have c0b8 := (b8.cell 0).trans (b := some (Value.bool s7)) rfl
                have c1b8 := (b8.cell 1).trans (b := some (Value.slice A7 n7 c7)) rfl
                go_wp2_with fail
                refine (lim_over (by have := HO.out.2; omega) HO.out.1.1 HO.out.1.2).mono ?_
                rintro e u121 ⟨s8, A8, n8, c8, rfl, h121⟩
                clear c0b0 c1b0 c0b8 c1b8
                have ch71 := ch70.trans (h121.mono ch70.size)
                replace b0 := b0.below h121 b0.lt
                replace b8 := b8.below h121 b8.lt
                replace zA := zA.below h121
                replace z7 := z7.below h121
                replace SA := SA.below h121
                have a122v : Below u121.heap.size u121 (u121.alloc (.cells #[.bool s8, .slice A8 n8 c8] 26)) := (Below.refl _ _).alloc (Nat.le_refl _) _
                have b9 : Blk (u121.alloc (.cells #[.bool s8, .slice A8 n8 c8] 26)) u121.heap.size 26 #[.bool s8, .slice A8 n8 c8] := Blk.new _ _ _
                have ch72 := ch71.trans (a122v.mono ch71.size)
                replace b0 := b0.below a122v b0.lt
                replace b8 := b8.below a122v b8.lt
                replace zA := zA.below a122v
                replace z7 := z7.below a122v
                replace SA := SA.below a122v
                have c0b0 := (b0.cell 0).trans (b := some (Value.bool neg)) rfl
                have c1b0 := (b0.cell 1).trans (b := some (Value.slice (some ⟨ga, oa, none⟩) N capA)) rfl
                have c0b8 := (b8.cell 0).trans (b := some (Value.bool s7)) rfl
                have c1b8 := (b8.cell 1).trans (b := some (Value.slice A7 n7 c7)) rfl
                have c0b9 := (b9.cell 0).trans (b := some (Value.bool s8)) rfl
                have c1b9 := (b9.cell 1).trans (b := some (Value.slice A8 n8 c8)) rfl
                go_wp2_with fail
                refine (sameL z7 zA).mono ?_
                rintro e u123 ⟨rfl, h123⟩
                clear c0b0 c1b0 c0b8 c1b8 c0b9 c1b9
                have ch73 := ch72.trans (h123.mono ch72.size)
                replace b0 := b0.below h123 b0.lt
                replace b8 := b8.below h123 b8.lt
                replace b9 := b9.below h123 b9.lt
                replace zA := zA.below h123
                replace z7 := z7.below h123
                replace SA := SA.below h123
                have c0b0 := (b0.cell 0).trans (b := some (Value.bool neg)) rfl
                have c1b0 := (b0.cell 1).trans (b := some (Value.slice (some ⟨ga, oa, none⟩) N capA)) rfl
                have c0b8 := (b8.cell 0).trans (b := some (Value.bool s7)) rfl
                have c1b8 := (b8.cell 1).trans (b := some (Value.slice A7 n7 c7)) rfl
                have c0b9 := (b9.cell 0).trans (b := some (Value.bool s8)) rfl
                have c1b9 := (b9.cell 1).trans (b := some (Value.slice A8 n8 c8)) rfl
                go_wp2_with fail
                refine (awake_any _).mono ?_
                rintro e u124 ⟨rfl, h124⟩
                clear c0b0 c1b0 c0b8 c1b8 c0b9 c1b9
                have ch74 := ch73.trans (h124.mono ch73.size)
                replace b0 := b0.below h124 b0.lt
                replace b8 := b8.below h124 b8.lt
                replace b9 := b9.below h124 b9.lt
                replace zA := zA.below h124
                replace z7 := z7.below h124
                replace SA := SA.below h124
                go_wp2
                go_ret
                exact ⟨rfl, ch74⟩
          · have hv : Hid (validB neg la = false) := by show _ = _; rw [hvA]; simp; omega
            have hN2 : ¬ (N : Int) ≤ 1024 := by omega
            have hN4 : decide ((N : Int) ≤ 1024) = false := by simp; omega
            clear hvA
            have c0b0 := (b0.cell 0).trans (b := some (Value.bool neg)) rfl
            have c1b0 := (b0.cell 1).trans (b := some (Value.slice (some ⟨ga, oa, none⟩) N capA)) rfl
            go_wp2_with fail
            refine (valid_t (wh_of_sl SA lA) hv.out).mono ?_
            rintro e u125 ⟨rfl, h125⟩
            clear c0b0 c1b0
            have ch66 := ch65.trans (h125.mono ch65.size)
            replace b0 := b0.below h125 b0.lt
            replace SA := SA.below h125
            have c0b0 := (b0.cell 0).trans (b := some (Value.bool neg)) rfl
            have c1b0 := (b0.cell 1).trans (b := some (Value.slice (some ⟨ga, oa, none⟩) N capA)) rfl
            go_wp2_with fail
            refine (text_inv (wh_of_sl SA lA) hv.out).mono ?_
            rintro e u126 ⟨rfl, h126⟩
            clear c0b0 c1b0
            have ch67 := ch66.trans (h126.mono ch66.size)
            replace b0 := b0.below h126 b0.lt
            replace SA := SA.below h126
            have c0b0 := (b0.cell 0).trans (b := some (Value.bool neg)) rfl
            have c1b0 := (b0.cell 1).trans (b := some (Value.slice (some ⟨ga, oa, none⟩) N capA)) rfl
            go_wp2_with fail
            refine (valid_t (wh_of_sl SA lA) hv.out).mono ?_
            rintro e u127 ⟨rfl, h127⟩
            clear c0b0 c1b0
            have ch68 := ch67.trans (h127.mono ch67.size)
            replace b0 := b0.below h127 b0.lt
            replace SA := SA.below h127
            have c0b0 := (b0.cell 0).trans (b := some (Value.bool neg)) rfl
            have c1b0 := (b0.cell 1).trans (b := some (Value.slice (some ⟨ga, oa, none⟩) N capA)) rfl
            go_wp2_with fail
            refine (awake_any _).mono ?_
            rintro e u128 ⟨rfl, h128⟩
            clear c0b0 c1b0
            have ch69 := ch68.trans (h128.mono ch68.size)
            replace b0 := b0.below h128 b0.lt
            replace SA := SA.below h128
            go_wp2
            go_ret
            exact ⟨rfl, ch69⟩
end Go.Proofs.Ytgnidjhfiagfnaa
