/- DivMod on numbers; words out of limbs; the greatest common divisor of short numbers. Conditions: the numbers are in memory. -/
import Derived.Test.YtgnidjhfiagfnaaWv
import Derived.Laws.Bits64
namespace Go.Proofs.Ytgnidjhfiagfnaa
open Go.RowKit Go.Shelf
attribute [local go_sem] Oper.semAt_some

theorem divmod_inv {w : World} {va vb : Value} {x y : Bool} {la lb : List Nat} (hA : Wh w va x la) (hB : Wh w vb y lb) (hv : (validB x la && validB y lb) = false) :
    Calls Try.prog 29 #[va, vb] w fun e w' => ∃ q r, e = .returned (.tuple #[q, r, .int .i64 2]) ∧ WhZ w' q 0 ∧ WhZ w' r 0 ∧ Below w.heap.size w w' := by
  obtain ⟨A, ca, rfl, sa⟩ := hA
  obtain ⟨B, cb, rfl, sb⟩ := hB
  exact divmod_bad sa sb rfl rfl hv

theorem divmod_zer {w : World} {va vb : Value} {x y : Bool} {la : List Nat} (hA : Wh w va x la) (hB : Wh w vb y []) (hv : (validB x la && validB y []) = true) :
    Calls Try.prog 29 #[va, vb] w fun e w' => ∃ q r, e = .returned (.tuple #[q, r, .int .i64 11]) ∧ WhZ w' q 0 ∧ WhZ w' r 0 ∧ Below w.heap.size w w' := by
  obtain ⟨A, ca, rfl, sa⟩ := hA
  obtain ⟨B, cb, rfl, sb⟩ := hB
  exact divmod_zero sa sb rfl rfl hv

theorem divmod_ok {w : World} {va vb : Value} {x y : Bool} {la lb : List Nat} (hA : Wh w va x la) (hB : Wh w vb y lb) (hv : (validB x la && validB y lb) = true) (h0 : lb ≠ []) (hd : DivC la lb) :
    Calls Try.prog 29 #[va, vb] w fun e w' => ∃ q r, e = .returned (.tuple #[q, r, .int .i64 0]) ∧ WhZ w' q (sgn (x != y) (qN x y (val la) (val lb))) ∧ WhZ w' r (sgn y (rN x y (val la) (val lb))) ∧ Below w.heap.size w w' := by
  obtain ⟨A, ca, rfl, sa⟩ := hA
  obtain ⟨B, cb, rfl, sb⟩ := hB
  have hv' := Bool.and_eq_true_iff.1 hv
  have v1 := valid_norm sa.1 hv'.1
  have v2 := valid_norm sb.1 hv'.2
  have hb0 : 0 < lb.length := by
    rcases Nat.eq_zero_or_pos lb.length with h | h
    · exact absurd (List.eq_nil_of_length_eq_zero h) h0
    · exact h
  have hvb : val lb ≠ 0 := by
    intro e
    have := v2.1.2
    rw [e, digs_zero] at this
    exact h0 this.symm
  have la' := val_lt v1.1.1
  have l1 : (digs (val la / val lb)).length ≤ la.length := digs_length (Nat.lt_of_le_of_lt (Nat.div_le_self _ _) la')
  have l2 : (digs (val la % val lb)).length ≤ la.length := digs_length (Nat.lt_of_le_of_lt (Nat.mod_le _ _) la')
  have hla : Hid ((digs (val la / val lb)).length ≤ 1099511627000 ∧ lb.length ≤ 1099511627000 ∧ val lb ≠ 0 ∧ (digs (val la % val lb)).length ≤ 1099511627000) := ⟨by omega, by omega, hvb, by omega⟩
  unfold qN rN
  by_cases hr : val la % val lb = 0
  · have e1 : decide (val la % val lb ≠ 0) = false := by simp [hr]
    rw [e1, Bool.and_false]
    cases x <;> cases y
    · exact divmod_pp sa sb rfl rfl hv hd hb0 hla
    · exact divmod_pn sa sb rfl rfl hv hd hb0 hla hr
    · exact divmod_np sa sb rfl rfl hv hd hb0 hla hr
    · exact divmod_nn sa sb rfl rfl hv hd hb0 hla
  · have e1 : decide (val la % val lb ≠ 0) = true := by simp [hr]
    rw [e1, Bool.and_true]
    cases x <;> cases y
    · exact divmod_pp sa sb rfl rfl hv hd hb0 hla
    · exact divmod_pnu sa sb rfl rfl hv hd hb0 hla hr
    · exact divmod_npu sa sb rfl rfl hv hd hb0 hla hr
    · exact divmod_nn sa sb rfl rfl hv hd hb0 hla

theorem ofInt_u64 (a : Nat) (ha : a < 18446744073709551616) : (BitVec.ofInt 64 (a : Int)).toNat = a := by
  rw [BitVec.ofInt_natCast, BitVec.toNat_ofNat]; exact Nat.mod_eq_of_lt (by omega)
theorem or_shift_u (r x : Nat) (hr : r < 281474976710656) (hx : x < 65536) : bits .or .u64 ((r * 65536 : Nat) : Int) (x : Int) = ((r * 65536 + x : Nat) : Int) := by
  have h1 : r * 65536 ||| x = r * 65536 + x := by
    have := Nat.shiftLeft_add_eq_or_of_lt (b := x) (i := 16) hx r
    rw [Nat.shiftLeft_eq] at this
    exact this.symm
  show IntKind.u64.wrap ((BitVec.ofInt 64 ((r * 65536 : Nat) : Int) ||| BitVec.ofInt 64 (x : Int)).toNat : Int) = _
  rw [BitVec.toNat_or, ofInt_u64 _ (by omega), ofInt_u64 x (by omega), h1, IntKind.wrap_u64]
  omega

theorem val_drop {l : List Nat} {k : Nat} (h : k < l.length) : val (l.drop k) = nth l k + 65536 * val (l.drop (k + 1)) := by
  rw [drop_nth h]; rfl

set_option maxRecDepth 100000 in
set_option maxHeartbeats 2000000 in
theorem word_any (l : List Nat) (A : Option Addr) (n c : Nat) (w : World) (hs : Sl w (.slice A n c) l) (hn : Hid (l.length = n)) (hn4 : n ≤ 4) :
    Calls Try.prog 56 #[.slice A n c] w fun e w' => e = .returned (.tuple #[.int .u64 (val l), .bool true]) ∧ Below w.heap.size w w' := by
  obtain ⟨hl, _, A', c', e, _, _, hA⟩ := hs
  injection e with e1 e2 e3
  subst e1 e3
  have hAd : 0 < n → ∃ b off, A = some ⟨b, off, none⟩ ∧ b < w.heap.size ∧ ∀ j, j < n → w.cell? ⟨b, off + j, none⟩ = some (.int .u16 (nth l j)) := fun h => by
    have := hA.cells (by rw [hn.out]; exact h)
    rwa [hn.out] at this
  obtain ⟨b, off, hAe, hbl, hAc⟩ : ∃ b off, (0 < n → A = some ⟨b, off, none⟩) ∧ (0 < n → b < w.heap.size) ∧ ∀ j, j < n → w.cell? ⟨b, off + j, none⟩ = some (.int .u16 (nth l j)) := by
    by_cases h : 0 < n
    · obtain ⟨b, off, h1, h2, h3⟩ := hAd h
      exact ⟨b, off, fun _ => h1, fun _ => h2, h3⟩
    · exact ⟨0, 0, fun h' => absurd h' h, fun h' => absurd h' h, fun j hj => by omega⟩
  have HAc : Hid (∀ j, j < n → w.cell? ⟨b, off + j, none⟩ = some (.int .u16 (nth l j))) := hAc
  clear hAc hAd hA e2
  refine (callsIn_wide (n := 9)).1 ?_
  refine callsIn_of_wp_marks Try.func56 rfl trivial ?_ rfl
  simp only [Try.ntmps56, List.size_toArray, List.length_cons, List.length_nil, Nat.reduceAdd, Nat.reduceSub, Array.replicate_succ, Array.replicate_zero, List.push_toArray, List.append_toArray, List.nil_append, List.cons_append]
  gi_wp2_with (refine ⟨trivial, ?_⟩; gi_at_call 77; refine (callsIn_wide.2 (downward_any _ _ _ _)).mono ?_; rintro e w' ⟨rfl, rfl⟩)
  refine wpIn_down (by omega) (w.heap.size + 1) b off n c A rfl (by omega) hAe (nth l)
    (fun k W => Below w.heap.size w W ∧ Blk W w.heap.size 62 #[.int .u64 (val (l.drop k))] ∧ Blk W (w.heap.size + 1) 24 #[.slice A n c])
    (fun _ _ => False)
    (fun s W W' row h hg hr => ⟨below_own h.1 (Nat.le_refl _) (by simp; omega) hg hr, h.2.1.own hg hr, h.2.2.own hg hr⟩)
    (fun _ _ _ _ h _ _ => h)
    (fun k W h => (h.2.2.cell 0).trans rfl)
    (fun k W hk h => (h.1.cell (p := ⟨b, off + k, none⟩) (hbl (by omega))).trans (HAc.out k hk))
    ⟨(by repeat (first | exact Below.refl _ _ | assumption | refine Below.alloc ?_ (by first | (simp; done) | (simp; omega) | omega) _ | refine Below.setCell ?_ (by first | (simp; done) | (simp; omega) | omega) _ | refine Below.drew ?_)), ?i1, ?i2⟩
    ?a1 ?assign ?body ?done ?stop
  case i1 =>
    rw [← hn.out, List.drop_length]
    exact (Blk.new w 62 #[.int .u64 0]).alloc _
  case i2 =>
    have := Blk.new (w.alloc (.cells #[.int .u64 0] 62)) 24 #[.slice A n c]
    rwa [World.size_alloc] at this
  case assign =>
    intro l k W K hK
    gi_wp2
    exact hK
  case body =>
    rintro rl k W hk ⟨hb, q1, q2⟩
    have hx := nth_lt hl k
    have hkl : k < l.length := by rw [hn.out]; exact hk
    have hlt : val (l.drop (k + 1)) < 281474976710656 := by
      have h1 := val_lt (limbs_drop hl (k + 1))
      have h2 : (l.drop (k + 1)).length ≤ 3 := by rw [List.length_drop, hn.out]; omega
      exact Nat.lt_of_lt_of_le h1 (Nat.le_trans (Nat.pow_le_pow_right (by omega) h2) (by decide))
    obtain ⟨r, hr⟩ : ∃ r, val (l.drop (k + 1)) = r := ⟨_, rfl⟩
    have HV : Hid (val (l.drop k) = r * 65536 + nth l k) := by show _ = _; rw [val_drop hkl, hr]; omega
    rw [hr] at q1 hlt
    clear hr
    have c1 := (q1.cell 0).trans (b := some (Value.int .u64 r)) rfl
    have f1 := q1.frozen 0
    have l1 := q1.lt
    have hor : bits .or .u64 ((r : Int) * 65536) (nth l k : Int) = ((r * 65536 + nth l k : Nat) : Int) := by
      have := or_shift_u r (nth l k) hlt hx; rwa [Int.natCast_mul] at this
    gi_wp2
    refine ⟨(KeepsOthers.setCell _ _ _).from _, hb.setCell (p := ⟨w.heap.size, 0, none⟩) (Nat.le_refl _) _, ?_, q2.far (p := ⟨w.heap.size, 0, none⟩) (by simp) _⟩
    rw [HV.out]
    have := q1.set_ 0 (.int .u64 ((r * 65536 + nth l k : Nat) : Int))
    simpa using this
  case done =>
    rintro D W hD ⟨hb, q1, q2⟩ hK
    have c1 := (q1.cell 0).trans (b := some (Value.int .u64 (val (l.drop 0)))) rfl
    have HK : Hid (W.heap[D]? = some (Obj.deferred (some []))) := hK
    have hD2 : w.heap.size ≤ D := by simp at hD; omega
    rw [List.drop_zero] at c1
    clear hK
    gi_wp2
    refine ⟨by simp, .inl ⟨_, _, rfl, run_takeDeferred HK.out, ?_⟩⟩
    refine ⟨.tuple #[.int .u64 (val l), .bool true], by simp [results, Try.f56, go_sem], rfl, below_put hb (Nat.le_refl _) hD2 _⟩
  case stop =>
    intro D W _ h _
    exact h.elim
end Go.Proofs.Ytgnidjhfiagfnaa
