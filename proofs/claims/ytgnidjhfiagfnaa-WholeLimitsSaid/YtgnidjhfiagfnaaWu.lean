/- Copies of limbs, and division by one limb. Conditions: the limbs are the call's own where they are written. -/
import Derived.Test.YtgnidjhfiagfnaaWt
import Derived.Lib.SliceRun
import Derived.Laws.BitsAllLaws
import Derived.Laws.BitsLemmas
namespace Go.Proofs.Ytgnidjhfiagfnaa
open Go.RowKit Go.Shelf
attribute [local go_sem] Oper.semAt_some

theorem ofInt_i64 (a : Nat) (ha : a < 9223372036854775808) : (BitVec.ofInt 64 (a : Int)).toNat = a := by
  rw [BitVec.ofInt_natCast, BitVec.toNat_ofNat]; exact Nat.mod_eq_of_lt (by omega)
/-- A limb behind what is shifted by sixteen bits. -/
theorem or_shift (r x : Nat) (hr : r < 140737488355328) (hx : x < 65536) : bits .or .i64 ((r * 65536 : Nat) : Int) (x : Int) = ((r * 65536 + x : Nat) : Int) := by
  have h1 : r * 65536 ||| x = r * 65536 + x := by
    have := Nat.shiftLeft_add_eq_or_of_lt (b := x) (i := 16) hx r
    rw [Nat.shiftLeft_eq] at this
    exact this.symm
  show IntKind.i64.wrap ((BitVec.ofInt 64 ((r * 65536 : Nat) : Int) ||| BitVec.ofInt 64 (x : Int)).toNat : Int) = _
  rw [BitVec.toNat_or, ofInt_i64 _ (by omega), ofInt_i64 x (by omega), h1, IntKind.wrap_i64]
  omega

theorem wrap_quo (cur d : Nat) (h1 : cur / d < 65536) : IntKind.u16.wrap (wrap64 ((cur : Int) / (d : Int))) = ((cur / d : Nat) : Int) := by
  have h2 : ((cur : Int) / (d : Int)) = ((cur / d : Nat) : Int) := (Int.natCast_ediv cur d).symm
  rw [h2]
  generalize cur / d = t at *
  have e : wrap64 (t : Int) = (t : Int) := IntWalk.wrap64_in _ (by omega)
  rw [e, wrap_u16]
  omega

/-- Division by one digit, from the most significant limb on: the digits of the quotient that are known, and the rest. -/
structure Short (L : List Nat) (d k : Nat) (Q : List Nat) (r : Nat) : Prop where
  len : Q.length + k = L.length
  limbs : Limbs Q
  rest : r < d
  eq : val (L.drop k) = val Q * d + r

theorem drop_nth {L : List Nat} {k : Nat} (h : k < L.length) : L.drop k = nth L k :: L.drop (k + 1) := by
  rw [List.drop_eq_getElem_cons h]
  unfold nth
  simp [List.getD_eq_getElem?_getD, h]

theorem Short.step {L : List Nat} {d k : Nat} {Q : List Nat} {r : Nat} (hL : Limbs L) (h : Short L d (k + 1) Q r) : Short L d k (((r * 65536 + nth L k) / d) :: Q) ((r * 65536 + nth L k) % d) := by
  have hd : 0 < d := Nat.lt_of_le_of_lt (Nat.zero_le _) h.rest
  have hx := nth_lt hL k
  have hr := h.rest
  refine ⟨by have := h.len; simp; omega, ?_, Nat.mod_lt _ hd, ?_⟩
  · rw [limbs_cons]
    refine ⟨?_, h.limbs⟩
    rw [Nat.div_lt_iff_lt_mul hd]
    have : (r + 1) * 65536 ≤ d * 65536 := Nat.mul_le_mul_right _ hr
    rw [Nat.mul_comm 65536 d]
    omega
  · have hk : k < L.length := by have := h.len; omega
    rw [drop_nth hk]
    simp only [val]
    rw [h.eq]
    have := Nat.div_add_mod (r * 65536 + nth L k) d
    generalize (r * 65536 + nth L k) / d = q at *
    generalize (r * 65536 + nth L k) % d = m at *
    grind

set_option maxRecDepth 100000 in
set_option maxHeartbeats 400000 in
theorem clone_none (n c : Nat) (w : World) (hn : n = 0) :
    Calls Try.prog 71 #[.slice none n c] w fun e w' => e = .returned (.slice none 0 0) ∧ w' = w := by
  subst hn
  have qT : ∀ (w : World) (a : Option Addr) (n c n' c' : Nat), (binOp .eql 24 (.slice a n c) (.slice none n' c')).run Try.prog w = .ok (.bool a.isNone) w := fun w a n c n' c' => Lib.run_eql_slice_nil w _ _ a n c n' c' Try.underlying24
  go_enter Try.func71, Try.ntmps71
  go_wp2
  go_ret
  exact ⟨rfl, rfl⟩

theorem own_form {w : World} {base e size n : Nat} {v : Value} {xs : List Value} (h : w.ownsRow base e size v n xs) : ∃ A c, v = .slice A n c := by
  rcases h.2 with ⟨rfl, rfl⟩ | ⟨g, cap, cur, rfl, _⟩
  · exact ⟨_, _, rfl⟩
  · exact ⟨_, _, rfl⟩

set_option maxRecDepth 100000 in
set_option maxHeartbeats 400000 in
theorem clone_some (l : List Nat) (a : Addr) (n c : Nat) (w : World) (hn : Hid (l.length = n)) (hl : n ≤ 70368744177664) (HC : Hid (∀ j u, (vals l)[j]? = some u → (w.alloc (.cells #[] 22)).cell? (a.add j) = some u)) :
    Calls Try.prog 71 #[.slice (some a) n c] w fun e w' => ∃ A' c', e = .returned (.slice A' n c') ∧ w'.ownsRow w.heap.size 22 1 (.slice A' n c') n (vals l) ∧ Below w.heap.size w w' := by
  have qT : ∀ (w : World) (a : Option Addr) (n c n' c' : Nat), (binOp .eql 24 (.slice a n c) (.slice none n' c')).run Try.prog w = .ok (.bool a.isNone) w := fun w a n c n' c' => Lib.run_eql_slice_nil w _ _ a n c n' c' Try.underlying24
  obtain ⟨i0, hi, hz0, hz1, hz2⟩ := info_parts info22
  have own0 : (w.alloc (.cells #[] 22)).ownsRow w.heap.size 22 1 (.slice (some ⟨w.heap.size, 0, none⟩) 0 0) 0 [] := World.ownsRow_made w #[] 0 (Nat.le_refl _) (by unfold maxLen; omega) rfl
  go_enter Try.func71, Try.ntmps71
  go_wp2_with (at_builtin; refine wpList_append_own _ rfl _ _ 24 rfl w.heap.size 22 i0 (.int .u16 0) 1 2 Try.underlying24 hi hz0 hz1 hz2 rfl (by decide) _ _ _ rfl own0 a n c (vals l) rfl ?c0 HC.out ?c2 ?c3 ?c4 ?c5 ?_)
  case c0 => unfold vals; rw [List.length_map, hn.out]; simp
  case c2 =>
    intro u hu
    unfold vals at hu
    simp at hu
    obtain ⟨x, _, rfl⟩ := hu
    rfl
  case c3 => unfold maxLen; omega
  case c4 => omega
  case c5 => simp
  intro v' w1 hown' hgrow _
  have hown2 : w1.ownsRow w.heap.size 22 1 v' n (vals l) := by simpa using hown'
  obtain ⟨A', c', rfl⟩ := own_form hown2
  clear hown'
  have hb : Below w.heap.size w w1 := ((Below.refl w.heap.size w).alloc (Nat.le_refl _) (.cells #[] 22)).grown hgrow (by simp) (fun k hk => by simp [Value.ownBlock] at hk; omega)
  go_wp2
  go_ret
  exact ⟨A', c', rfl, hown2, hb⟩

theorem clone_sl {w : World} {v : Value} {l : List Nat} (h : Sl w v l) :
    Calls Try.prog 71 #[v] w fun e w' => ∃ A' c', e = .returned (.slice A' l.length c') ∧ w'.ownsRow w.heap.size 22 1 (.slice A' l.length c') l.length (vals l) ∧ Below w.heap.size w w' := by
  obtain ⟨h1, h2, A, c, rfl, h3, h4, h5⟩ := h
  cases A with
  | none =>
    have h0 : l = [] := by
      rcases List.eq_nil_or_concat l with h | ⟨a, x, rfl⟩
      · exact h
      · obtain ⟨b, off, e, _⟩ := h5 (by simp)
        cases e
    subst h0
    refine (clone_none 0 c w rfl).mono ?_
    rintro e w' ⟨rfl, rfl⟩
    exact ⟨none, 0, rfl, World.ownsRow_nil _ _ _ _, Below.refl _ _⟩
  | some a =>
    refine clone_some l a l.length c w rfl h2 ?_
    intro j u hu
    have hj : j < l.length := by
      have := (List.getElem?_eq_some_iff.1 hu).1
      unfold vals at this
      simpa using this
    obtain ⟨b, off, e, hb, hc⟩ := h5 (by intro e; subst e; simp at hj)
    cases e
    have e1 : u = .int .u16 (nth l j : Int) := by
      unfold vals at hu
      simp [hj] at hu
      rw [← hu]
      unfold nth
      simp [List.getD_eq_getElem?_getD, hj]
    have e2 : ((⟨b, off, none⟩ : Addr).add j) = ⟨b, off + j, none⟩ := by unfold Addr.add; split <;> simp_all
    rw [e2, e1, World.cell?_alloc_lt w _ _ hb]
    exact hc j hj

/-- An owned row is not what an iterator's book-keeping turns. -/
theorem own_own {w w' : World} {base e size n B : Nat} {v : Value} {xs : List Value} {row : Option Nat} (h : w.ownsRow base e size v n xs) (hg : w.grownBy w' row) (hr : ∀ r, row = some r → B ≤ r ∧ ∃ o : Obj, w.heap[r]? = some o ∧ o.isCells = false) : w'.ownsRow base e size v n xs := by
  refine h.kept hg ?_
  rcases h.2 with ⟨rfl, _⟩ | ⟨g, cap, cur, rfl, _, hh, _⟩
  · exact .inl rfl
  · right
    intro e
    obtain ⟨_, o, ho, hc⟩ := hr g (by rw [← e]; rfl)
    rw [hh] at ho
    cases ho
    simp [Obj.isCells] at hc

theorem only_own {a w w' : World} {g B : Nat} {row : Option Nat} (h : a.grownBy w (some g)) (hB : a.heap.size ≤ B) (hg : w.grownBy w' row) (hr : ∀ r, row = some r → B ≤ r ∧ ∃ o : Obj, w.heap[r]? = some o ∧ o.isCells = false) : a.grownBy w' (some g) :=
  ⟨hg.os.trans h.os, hg.tape.trans h.tape, hg.output.trans h.output, Nat.le_trans h.size hg.size, fun i hi hne => (hg.block i (Nat.lt_of_lt_of_le hi h.size) (fun e => by have := (hr i e.symm).1; omega)).trans (h.block i hi hne)⟩
theorem only_alloc {a w : World} {row : Option Nat} (h : a.grownBy w row) (o : Obj) : a.grownBy (w.alloc o) row :=
  ⟨h.os, h.tape, h.output, Nat.le_trans h.size (by simp), fun i hi hne => (Below.heap_alloc w o i (Nat.lt_of_lt_of_le hi h.size)).trans (h.block i hi hne)⟩
theorem only_drew {a w : World} {row : Option Nat} (h : a.grownBy w row) : a.grownBy w.drew row := ⟨h.os, h.tape, h.output, h.size, h.block⟩
theorem only_setCell {a w : World} {g : Nat} (h : a.grownBy w (some g)) {p : Addr} (hp : p.block = g ∨ a.heap.size ≤ p.block) (u : Value) : a.grownBy (w.setCell p u) (some g) :=
  ⟨h.os, h.tape, h.output, by simpa [World.setCell] using h.size, fun i hi hne => (Below.heap_setCell w p u i (by
    rintro rfl
    rcases hp with hp | hp
    · exact hne (by rw [hp])
    · omega)).trans (h.block i hi hne)⟩
theorem only_refl (a : World) (g : Nat) : a.grownBy a (some g) := ⟨rfl, rfl, rfl, Nat.le_refl _, fun _ _ _ => rfl⟩
theorem only_below {a w w' : World} {g : Nat} (h : a.grownBy w (some g)) (hb : Below w.heap.size w w') : a.grownBy w' (some g) :=
  ⟨hb.os.trans h.os, hb.tape.trans h.tape, hb.output.trans h.output, Nat.le_trans h.size hb.size, fun i hi hne => (hb.block i (Nat.lt_of_lt_of_le hi h.size)).trans (h.block i hi hne)⟩
theorem only_put {a w : World} {g D : Nat} (h : a.grownBy w (some g)) (hD : a.heap.size ≤ D) (o' : Obj) : a.grownBy (w.putObj D o') (some g) :=
  ⟨h.os, h.tape, h.output, by simpa using h.size, fun i hi hne => (World.putObj_heap_other (by omega)).trans (h.block i hi hne)⟩

set_option maxRecDepth 100000 in
set_option maxHeartbeats 2000000 in
theorem divideShort_any (base g n c d : Nat) (L : List Nat) (w : World) (hn : Hid (L.length = n)) (hL : Limbs L) (hnl : n ≤ 70368744177664) (hd0 : 0 < d) (hd : d < 4294967296) (hown : w.ownsRow base 22 1 (.slice (some ⟨g, 0, none⟩) n c) n (vals L)) (hg : g < w.heap.size) :
    Calls Try.prog 72 #[.slice (some ⟨g, 0, none⟩) n c, .int .i64 d] w fun e w' => ∃ (Q : List Nat) (r : Nat), e = .returned (.int .i64 r) ∧ Short L d 0 Q r ∧ w'.ownsRow base 22 1 (.slice (some ⟨g, 0, none⟩) n c) n (vals Q) ∧ w.grownBy w' (some g) := by
  have hmx : Try.prog.follows .mixedOrders = true := by kernel_rfl
  refine (callsIn_wide (n := 9)).1 ?_
  refine callsIn_of_wp_marks Try.func72 rfl trivial ?_ rfl
  simp only [Try.ntmps72, List.size_toArray, List.length_cons, List.length_nil, Nat.reduceAdd, Nat.reduceSub, Array.replicate_succ, Array.replicate_zero, List.push_toArray, List.append_toArray, List.nil_append, List.cons_append]
  gi_wp2_with (refine ⟨trivial, ?_⟩; gi_at_call 77; refine (callsIn_wide.2 (downward_any _ _ _ _)).mono ?_; rintro e w' ⟨rfl, rfl⟩)
  refine wpIn_down (by omega) (w.heap.size + 3) g 0 n c (some ⟨g, 0, none⟩) rfl (by omega) (fun _ => rfl) (nth L)
    (fun k W => ∃ (Q : List Nat) (r : Nat), Hid (Short L d k Q r) ∧ W.ownsRow base 22 1 (.slice (some ⟨g, 0, none⟩) n c) n (vals (L.take k ++ Q)) ∧ Blk W w.heap.size 24 #[.slice (some ⟨g, 0, none⟩) n c] ∧ Blk W (w.heap.size + 1) 3 #[.int .i64 d] ∧ Blk W (w.heap.size + 2) 3 #[.int .i64 r] ∧ Blk W (w.heap.size + 3) 24 #[.slice (some ⟨g, 0, none⟩) n c] ∧ w.grownBy W (some g))
    (fun _ _ => False) ?hI (fun _ _ _ _ h _ _ => h) ?hIs ?hIc ?h0 ?a1 ?assign ?body ?done ?stop
  case hI =>
    rintro k W W' row ⟨Q, r, h1, h2, h3, h4, h5, h6, h7⟩ hg' hr
    exact ⟨Q, r, h1, own_own h2 hg' hr, h3.own hg' hr, h4.own hg' hr, h5.own hg' hr, h6.own hg' hr, only_own h7 (by simp; omega) hg' hr⟩
  case hIs =>
    rintro k W ⟨Q, r, h1, h2, h3, h4, h5, h6, h7⟩
    exact (h6.cell 0).trans rfl
  case hIc =>
    rintro k W hk ⟨Q, r, h1, h2, h3, h4, h5, h6, h7⟩
    rw [Nat.zero_add, h2.cellAt k (by omega)]
    have hkL : k < L.length := by rw [hn.out]; exact hk
    unfold vals nth
    simp [List.getD_eq_getElem?_getD, List.getElem?_append, hkL]
    intro h
    omega
  case h0 =>
    refine ⟨[], 0, ⟨by simp [hn.out], limbs_nil, hd0, ?_⟩, ?_, ?_, ?_, ?_, ?_, ?_⟩
    · rw [← hn.out, List.drop_length]; simp [val]
    · rw [← hn.out, List.take_length, List.append_nil, hn.out]
      exact (((hown.alloc _).alloc _).alloc _).alloc _
    · exact (((Blk.new w 24 _).alloc _).alloc _).alloc _
    · have := ((Blk.new (w.alloc (.cells #[.slice (some ⟨g, 0, none⟩) n c] 24)) 3 #[.int .i64 d]).alloc (.cells #[.int .i64 0] 3)).alloc (.cells #[.slice (some ⟨g, 0, none⟩) n c] 24)
      rwa [World.size_alloc] at this
    · have := (Blk.new ((w.alloc (.cells #[.slice (some ⟨g, 0, none⟩) n c] 24)).alloc (.cells #[.int .i64 d] 3)) 3 #[.int .i64 0]).alloc (.cells #[.slice (some ⟨g, 0, none⟩) n c] 24)
      rwa [World.size_alloc, World.size_alloc] at this
    · have := Blk.new (((w.alloc (.cells #[.slice (some ⟨g, 0, none⟩) n c] 24)).alloc (.cells #[.int .i64 d] 3)).alloc (.cells #[.int .i64 0] 3)) 24 #[.slice (some ⟨g, 0, none⟩) n c]
      rwa [World.size_alloc, World.size_alloc, World.size_alloc] at this
    · exact only_alloc (only_alloc (only_alloc (only_alloc (only_refl w g) _) _) _) _
  case assign =>
    intro l k W K hK
    gi_wp2
    exact hK
  case body =>
    rintro l k W hk ⟨Q, r, H, hown1, b0, b1, b2, b3, hon⟩
    have hx := nth_lt hL k
    have hr := H.out.rest
    have hst := H.out.step hL
    obtain ⟨cur, hcur⟩ : ∃ cur : Nat, r * 65536 + nth L k = cur := ⟨_, rfl⟩
    have hor : bits .or .i64 ((r : Int) * 65536) (nth L k : Int) = (cur : Int) := by
      rw [← hcur]; have := or_shift r (nth L k) (by omega) hx; rwa [Int.natCast_mul] at this
    have hc48 : cur < 281474976710656 := by omega
    rw [hcur] at hst
    have hq : cur / d < 65536 := by
      rw [Nat.div_lt_iff_lt_mul hd0]
      have : (r + 1) * 65536 ≤ d * 65536 := Nat.mul_le_mul_right _ hr
      rw [Nat.mul_comm 65536 d]
      omega
    have hwq : Hid (IntKind.u16.wrap (wrap64 ((cur : Int) / (d : Int))) = ((cur / d : Nat) : Int)) := wrap_quo cur d hq
    have HS : Hid (Short L d k (cur / d :: Q) (cur % d)) := hst
    clear hq
    have HC : Hid (r * 65536 + nth L k = cur) := hcur
    clear hcur hst
    have c0 := (b0.cell 0).trans (b := some (Value.slice (some ⟨g, 0, none⟩) n c)) rfl
    have c1 := (b1.cell 0).trans (b := some (Value.int .i64 d)) rfl
    have c2 := (b2.cell 0).trans (b := some (Value.int .i64 r)) rfl
    have f2 := b2.frozen 0
    have l2 := b2.lt
    have xk : ∃ v, W.cell? ⟨g, k, none⟩ = some v := by
      rw [hown1.cellAt k (by omega)]
      exact ⟨_, List.getElem?_eq_getElem (by have := hown1.1; omega)⟩
    obtain ⟨v0, xk⟩ := xk
    have fk := hown1.frozenAt k
    have n1 : g ≠ w.heap.size + 1 + 1 := by omega
    have n2 : w.heap.size + 1 + 1 ≠ g := by omega
    have hki : (0 : Int) ≤ (k : Int) ∧ (k : Int) < (n : Int) := by omega
    have hgl : g < W.heap.size := by omega
    have e0 : Blk W w.heap.size 24 #[.slice (some ⟨g, 0, none⟩) n c] := b0
    have fin : ∀ (BB : Nat) a, downPost BB (fun k W => ∃ (Q : List Nat) (r : Nat), Hid (Short L d k Q r) ∧ W.ownsRow base 22 1 (.slice (some ⟨g, 0, none⟩) n c) n (vals (L.take k ++ Q)) ∧ Blk W w.heap.size 24 #[.slice (some ⟨g, 0, none⟩) n c] ∧ Blk W (w.heap.size + 1) 3 #[.int .i64 d] ∧ Blk W (w.heap.size + 2) 3 #[.int .i64 r] ∧ Blk W (w.heap.size + 3) 24 #[.slice (some ⟨g, 0, none⟩) n c] ∧ w.grownBy W (some g)) (fun _ _ => False) k W Exit.normal a
        (((W.setCell ⟨w.heap.size + 1 + 1, 0, none⟩ (.int .i64 cur)).setCell ⟨g, k, none⟩ (.int .u16 (IntKind.u16.wrap (wrap64 ((cur : Int) / (d : Int)))))).setCell ⟨w.heap.size + 1 + 1, 0, none⟩ (.int .i64 ((cur : Int) % (d : Int)))).drew := by
      intro BB a
      refine ⟨((((KeepsOthers.setCell _ _ _).trans (KeepsOthers.setCell _ _ _)).trans (KeepsOthers.setCell _ _ _)).trans (KeepsOthers.drew _)).from _, cur / d :: Q, cur % d, HS, ?_, ?_, ?_, ?_, ?_, ?_⟩
      · rw [hwq.out]
        have o1 := ownsRow_setCell_other hown1 (a := ⟨w.heap.size + 1 + 1, 0, none⟩) (own_blk_ne hown1 b2 (by decide)) (.int .i64 cur)
        have o2 := (o1.stored k (.int .u16 ((cur / d : Nat) : Int))).1
        have b2' := (b2.set_ 0 (.int .i64 cur)).far (p := ⟨g, k, none⟩) (by show w.heap.size + 2 ≠ g; omega) (.int .u16 ((cur / d : Nat) : Int))
        have o3 := ownsRow_setCell_other o2 (a := ⟨w.heap.size + 1 + 1, 0, none⟩) (own_blk_ne o2 b2' (by decide)) (.int .i64 ((cur : Int) % (d : Int)))
        have ev : (vals (L.take (k + 1) ++ Q)).set k (.int .u16 ((cur / d : Nat) : Int)) = vals (L.take k ++ (cur / d :: Q)) := by
          have hkL : k < L.length := by rw [hn.out]; exact hk
          rw [take_snoc_getD L hkL]
          unfold vals
          simp only [List.map_append, List.map_cons, List.append_assoc, List.cons_append, List.nil_append]
          have hlt : (List.map (fun x : Nat => Value.int .u16 (x : Int)) (L.take k)).length = k := by simp; omega
          rw [List.set_append_right _ _ (by omega), hlt, Nat.sub_self]
          rfl
        rw [← ev]
        exact o3
      · exact ((b0.far (p := ⟨w.heap.size + 1 + 1, 0, none⟩) (by show w.heap.size ≠ w.heap.size + 1 + 1; omega) _).far (p := ⟨g, k, none⟩) (by show w.heap.size ≠ g; omega) _).far (p := ⟨w.heap.size + 1 + 1, 0, none⟩) (by show w.heap.size ≠ w.heap.size + 1 + 1; omega) _
      · exact ((b1.far (p := ⟨w.heap.size + 1 + 1, 0, none⟩) (by simp) _).far (p := ⟨g, k, none⟩) (by show w.heap.size + 1 ≠ g; omega) _).far (p := ⟨w.heap.size + 1 + 1, 0, none⟩) (by simp) _
      · have := ((b2.set_ 0 (.int .i64 cur)).far (p := ⟨g, k, none⟩) (by show w.heap.size + 2 ≠ g; omega) (.int .u16 (IntKind.u16.wrap (wrap64 ((cur : Int) / (d : Int)))))).set_ 0 (.int .i64 ((cur : Int) % (d : Int)))
        exact this
      · exact ((b3.far (p := ⟨w.heap.size + 1 + 1, 0, none⟩) (by simp) _).far (p := ⟨g, k, none⟩) (by show w.heap.size + 3 ≠ g; omega) _).far (p := ⟨w.heap.size + 1 + 1, 0, none⟩) (by simp) _
      · exact only_drew (only_setCell (only_setCell (only_setCell hon (p := ⟨w.heap.size + 1 + 1, 0, none⟩) (.inr (by simp; omega)) _) (p := ⟨g, k, none⟩) (.inl rfl) _) (p := ⟨w.heap.size + 1 + 1, 0, none⟩) (.inr (by simp; omega)) _)
    have FIN := @fin
    clear fin
    gi_wp2
    clear hor hc48 H hx hr hL hnl hd e0 hown1 b0 b1 b2 b3 hon
    gi_region_o
    all_goals
      gi_wp2
      exact FIN _ _
  case done =>
    rintro D W hD ⟨Q, r, H, hown1, b0, b1, b2, b3, hon⟩ hK
    have c2 := (b2.cell 0).trans (b := some (Value.int .i64 r)) rfl
    have HK : Hid (W.heap[D]? = some (Obj.deferred (some []))) := hK
    have hD2 : w.heap.size ≤ D := by simp at hD; omega
    clear hK
    gi_wp2
    refine ⟨by simp, .inl ⟨_, _, rfl, run_takeDeferred HK.out, ?_⟩⟩
    refine ⟨_, results_tmp rfl _ _ _, Q, r, rfl, H.out, ?_, only_put hon hD2 _⟩
    have ho := own_own hown1 (B := 0) (grownBy_putObj' W D (.deferred none)) (fun r e => by cases e; exact ⟨Nat.zero_le _, _, HK.out, rfl⟩)
    simpa using ho
  case stop =>
    intro D W _ h _
    exact h.elim
end Go.Proofs.Ytgnidjhfiagfnaa
