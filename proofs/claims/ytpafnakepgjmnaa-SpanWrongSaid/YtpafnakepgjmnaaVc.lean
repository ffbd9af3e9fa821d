/- SpanWrong's function returns true. -/
import Derived.Test.YtpafnakepgjmnaaAw
import Derived.Deep.RegionHeld3
namespace Go.Proofs.Ytpafnakepgjmnaa
open Go.RowKit Go.Lib Go.Shelf

theorem step_append_own {P : Program} {w : World} {ops : Array Oper} {o : Oper} {a : Act} {K : Act → World → Prop} {Q : Exit → Act → World → Prop} {E : Prop} (hgd : o.guard = none) (s x : Operand) (t : TypeId)
    (ho : o.op = .call { callee := .builtin .append, args := #[s, x], argTypes := #[t, t] })
    (base : Nat) (e : TypeId) (i : TypeInfo) (z : Value) (size bytes : Nat) (ht : P.underlying t = some (.slice e)) (hi : P.info? e = some i) (hz : i.zero = some z)
    (hsize : i.size = size) (hby : i.bytes = bytes) (hzs : z.cells.size = size) (hsz : 0 < size)
    (v : Value) (n : Nat) (xs : List Value) (hs : a.eval s = v) (hown : w.ownsRow base e size v n xs)
    (ad : Addr) (m c : Nat) (news : List Value) (hx : a.eval x = .slice (some ad) m c) (hl : news.length = m * size) (hnews : ∀ j u, news[j]? = some u → w.cell? (ad.add j) = some u) (h1 : ∀ u ∈ news, u.oneCell' = true)
    (h63 : n + m ≤ maxLen) (hbytes : (n + m) * bytes ≤ 140737488355328) (hbase : base ≤ w.heap.size)
    (h : ∀ v' w', w'.ownsRow base e size v' (n + m) (xs ++ news) → w.grownBy w' v.ownBlock → (v' = .slice none 0 0 ↔ v = .slice none 0 0 ∧ m = 0) → K (a.put o.dst v') w') :
    if Region.wanted o (yielded ops a.tmps) = true then Oper.wp P o a w K Q else E := by
  have hw : Region.wanted o (yielded ops a.tmps) = true := by simp [Region.wanted, hgd]
  rw [if_pos hw]
  exact wp_append_own w s x t ho base e i z size bytes ht hi hz hsize hby hzs hsz v n xs hs hown ad m c news hx hl hnews h1 h63 hbytes hbase h

/-- The slice's cells, as an append asks for them. -/
theorem SpH.news {w : World} {A : Option Addr} {l : List Sp} (h : SpH w A l) (hl : l ≠ []) : ∃ b off, A = some ⟨b, off, none⟩ ∧ b < w.heap.size ∧ ∀ w', Below w.heap.size w w' → ∀ j u, (cellsOf l)[j]? = some u → w'.cell? ((⟨b, off, none⟩ : Addr).add j) = some u := by
  obtain ⟨b, off, rfl, hb, _⟩ := h hl
  refine ⟨b, off, rfl, hb, fun w' hw j u hu => ?_⟩
  have e : (⟨b, off, none⟩ : Addr).add j = ⟨b, off + j, none⟩ := by
    unfold Addr.add
    split
    · rename_i h; subst h; rfl
    · rfl
  rw [e, hw.cell (p := ⟨b, off + j, none⟩) hb]
  exact h.cellsAt j u hu

/-- A span that does not go behind a set. -/
def BadSp (F T : Int) (s : Sp) : Prop := s = (T + 1, T + 1) ∨ s = (T, T + 1) ∨ s = (T - 1, T + 1) ∨ s = (-1, 2) ∨ s = (T + 1, 65537) ∨ s = (F, T)
theorem bad_not {a : List Sp} {q : Nat} {s : Sp} (hq : a.length = q + 1) (h : BadSp (fr a q) (tt a q) s) : ¬ IsSet (a ++ [s]) := by
  intro hs
  obtain ⟨S, hS, _⟩ := snoc_of hq
  obtain ⟨h1, h2, h3, h4, h5⟩ := SetFrom.snoc.1 hs
  have hm : ∀ r ∈ S ++ [(fr a q, tt a q)], r.2 < s.1 := fun r hr => h2 r (hS ▸ hr)
  have h6 := hm (fr a q, tt a q) (by simp)
  have h7 : tt a q < s.1 := h6
  rcases h with rfl | rfl | rfl | rfl | rfl | rfl <;> dsimp only at h3 h4 h5 h7 <;> omega

theorem SpH.low {w w' : World} {b o B : Nat} {l : List Sp} (h : SpH w (some ⟨b, o, none⟩) l) (hb : b < B) (hB : Below B w w') : SpH w' (some ⟨b, o, none⟩) l := fun hl => by
  obtain ⟨b', o', e, h1, h2⟩ := h hl
  cases e
  exact ⟨b, o, rfl, Nat.lt_of_lt_of_le h1 hB.size, fun i hi => by rw [hB.cell (p := ⟨b, _, none⟩) hb, hB.cell (p := ⟨b, _, none⟩) hb]; exact h2 i hi⟩
theorem two_one (x y : Int) : ∀ u ∈ [Value.int .i64 x, Value.int .i64 y], u.oneCell' = true := by simp [Value.oneCell']
theorem le_alloc {n : Nat} {w : World} (h : n ≤ w.heap.size) (o : Obj) : n ≤ (w.alloc o).heap.size := by simp; omega
theorem after_append {w5 w9 : World} {base : Nat} {v' v9 : Value} {a : List Sp} {x y : Int} {o : Obj} (hb : base ≤ w5.heap.size) (h : OwnSp w5 base v' a) (hown : w9.ownsRow base 34 2 v9 (a.length + 1) (cellsOf a ++ [.int .i64 x, .int .i64 y])) (hg : (w5.alloc o).grownBy w9 v'.ownBlock) :
    OwnSp w9 base v9 (a ++ [(x, y)]) ∧ Below base w5 w9 := by
  refine ⟨?_, ((Below.refl base w5).alloc hb o).grown hg (le_alloc hb o) (fun k e => (World.ownsRow.lt h k e).1)⟩
  show w9.ownsRow _ _ _ _ _ _
  rw [cells_append, List.length_append]
  exact hown

theorem bad_ret {f : Nat} {args : Array Value} {w : World} {V : List Sp} {E : Int} (h : Calls Try.prog f args w (RetSpE w V E)) (hV : V = []) (hE : E = 2) :
    Calls Try.prog f args w fun e w' => (∃ A c, e = .returned (.tuple #[.slice A 0 c, .int .i64 2])) ∧ Below w.heap.size w w' := by
  subst hV
  subst hE
  exact h.mono fun e w' ⟨v, he, ho, hb⟩ => by
    obtain ⟨A, c, rfl, _⟩ := ho.view
    exact ⟨⟨A, c, he⟩, hb⟩

set_option maxRecDepth 100000 in
set_option maxHeartbeats 8000000 in
theorem wrong_law (z0 : List Int) (way : Int) (X0 : Option Addr) (n0 k0 : Nat) (w : World) (b0 : n0 ≤ 4611686018427387904) (h0 : U16H w X0 n0 z0) (hy1 : 0 ≤ way) (_hy2 : way ≤ 255) :
    Calls Try.prog 10 #[.slice X0 n0 k0, .int .u8 way] w fun e w' => e = .returned (.bool true) ∧ Below w.heap.size w w' := by
  obtain ⟨i0, hi, hz0, hz1, hz2⟩ := info_parts info_sp
  have HI := hid hi
  have HZ := hid hz0
  have HZ1 := hid hz1
  have HZ2 := hid hz2
  have HB := hid (Below.refl w.heap.size w)
  have U0 := hid h0
  clear hi hz0 hz1 hz2 h0
  go_enter Try.func10, Try.ntmps10
  go_wp2_with fail
  refine (awake_any _).mono ?_
  rintro e u1 ⟨rfl, h⟩
  replace HB := hid (HB.out.trans (h.mono HB.out.size))
  clear h
  go_wp2_with fail
  refine (built_any z0 X0 n0 k0 _ b0 (U0.out.below HB.out)).mono ?_
  rintro e u2 ⟨v, a, rfl, Ia, la, ho, h⟩
  obtain ⟨Aa, ca, rfl, hca, _, Sa⟩ := ho.view
  clear ho
  replace Sa := hid Sa
  replace Ia := hid Ia
  replace HB := hid (HB.out.trans (h.mono HB.out.size))
  clear h
  by_cases hq0 : a.length = 0
  · have hq1 : ((0 : Int) == 0) = true := rfl
    rw [hq0]
    go_wp2
    go_ret
    exact ⟨rfl, HB.out⟩
  · obtain ⟨q, hq⟩ : ∃ q, a.length = q + 1 := ⟨a.length - 1, by omega⟩
    obtain ⟨F, HF⟩ : ∃ r, Hid (fr a q = r) := ⟨_, rfl⟩
    obtain ⟨T, HT⟩ : ∃ r, Hid (tt a q = r) := ⟨_, rfl⟩
    obtain ⟨bf, bt, bu, _⟩ := Ia.out.at_ (i := q) (by omega)
    rw [HF.out] at bf bt
    rw [HT.out] at bt bu
    obtain ⟨ba, oa, eA, hba, hcell⟩ := Sa.out.at_ rfl (by omega : 0 < a.length)
    subst eA
    obtain ⟨kc0, kc1⟩ := hcell q (by omega)
    rw [HF.out] at kc0
    rw [HT.out] at kc1
    have hnews := hid (Sa.out.news (by intro h; subst h; simp at hq))
    clear hcell
    have hq2 : ((q + 1 : Nat) : Int) - 1 = q := by omega
    rw [hq]
    rw [hq] at hca la
    have hq4 : ((q : Int) + 1 == 0) = false := by simp; omega
    by_cases hT : 65533 < T
    · go_wp2
      go_ret
      exact ⟨rfl, HB.out⟩
    · have HT2 : Hid (T ≤ 65533) := Int.not_lt.1 hT
      have hT3 : decide (65533 < T) = false := decide_eq_false hT
      go_upto_region 7 with fail
      obtain ⟨_, _, e9, _, hnw⟩ := hnews.out
      cases e9
      have b3 : Below u2.heap.size u2 ((u2.alloc (.cells #[.int .i64 F, .int .i64 T] 34)).alloc (.cells #[] 34)) := ((Below.refl u2.heap.size u2).alloc (Nat.le_refl _) _).alloc (by simp) _
      have HOW : Hid (((u2.alloc (.cells #[.int .i64 F, .int .i64 T] 34)).alloc (.cells #[] 34)).ownsRow (u2.heap.size + 1) 34 2 (.slice (some ⟨u2.heap.size + 1, 0, none⟩) 0 0) 0 []) := by
        have := World.ownsRow_made (base := u2.heap.size + 1) (e := 34) (size := 2) (u2.alloc (.cells #[.int .i64 F, .int .i64 T] 34)) #[] 0 (by simp) (Nat.zero_le _) (by simp)
        have e2 : (u2.alloc (.cells #[.int .i64 F, .int .i64 T] 34)).heap.size = u2.heap.size + 1 := by simp
        rw [e2] at this
        exact hid this
      have hw3 : u2.heap.size + 1 ≤ ((u2.alloc (.cells #[.int .i64 F, .int .i64 T] 34)).alloc (.cells #[] 34)).heap.size := by simp
      have hnw3 := hnw _ b3
      have hcl : (cellsOf a).length = (q + 1) * 2 := by rw [cells_len, hq]
      clear hnews hnw
      go_upto_region 8 with (at_builtin; refine wpList_append_own _ rfl _ _ 22 rfl (u2.heap.size + 1) 34 i0 (.agg #[.int .i64 0, .int .i64 0]) 2 16 Try.underlying22 HI.out HZ.out HZ1.out HZ2.out rfl (by decide) _ _ _ rfl HOW.out ⟨ba, oa, none⟩ (q + 1) ca (cellsOf a) rfl hcl hnw3 cells_one (by unfold maxLen; omega) (by omega) hw3 ?_; intro v' w4 hown1 hgrow1 _)
      have HO4 : Hid (OwnSp w4 (u2.heap.size + 1) v' a) := by
        show w4.ownsRow _ _ _ _ _ _
        rw [hq]
        simpa using hown1
      have b4 : Below u2.heap.size u2 w4 := b3.grown hgrow1 (by simp; omega) (fun k e => by
        have e' : some (u2.heap.size + 1) = some k := e
        obtain rfl := Option.some.inj e'
        omega)
      have HB4 := hid (HB.out.trans (b4.mono HB.out.size))
      have SA4 := hid (Sa.out.below b4)
      have BL4 : Hid (Blk w4 u2.heap.size 34 #[.int .i64 F, .int .i64 T]) := ((Blk.new u2 34 #[.int .i64 F, .int .i64 T]).alloc _).grown hgrow1 (fun e => by
        have e' : some u2.heap.size = some (u2.heap.size + 1) := e
        have := Option.some.inj e'
        omega)
      have HG : Hid (w.heap.size ≤ u2.heap.size) := HB.out.size
      clear hown1 hgrow1 b3 b4 HOW hw3 hnw3 kc0 kc1 Sa HB hcl
      generalize u2.heap.size = gl at *
      go_cut [7] from 44 (fun s7 wx => ∃ s, Hid (BadSp F T s) ∧ OwnSp wx (gl + 1) s7 (a ++ [s]) ∧ Blk wx gl 34 #[.int .i64 F, .int .i64 T] ∧ Hid (SpH wx (some ⟨ba, oa, none⟩) a) ∧ Hid (Below w.heap.size w wx))
      case first =>
        have x1 : IntKind.i64.wrap (T + 1) = T + 1 := by rw [IntKind.wrap_i64]; omega
        have x2 : IntKind.i64.wrap (T - 1) = T - 1 := by rw [IntKind.wrap_i64]; omega
        have m63 : a.length + 1 ≤ maxLen := by unfold maxLen; omega
        have mby : (a.length + 1) * 16 ≤ 140737488355328 := by omega
        have hba2 : ba < gl + 1 := by omega
        have HG2 : Hid (w.heap.size ≤ gl + 1) := Nat.le_succ_of_le HG.out
        obtain ⟨c, hc⟩ : ∃ c, way.tmod 6 = c := ⟨_, rfl⟩
        have hcb : c = 0 ∨ c = 1 ∨ c = 2 ∨ c = 3 ∨ c = 4 ∨ c = 5 := by rw [← hc, Int.tmod_eq_emod_of_nonneg hy1]; omega
        replace HO4 : Hid (OwnSp w4.drew (gl + 1) v' a) := HO4
        replace BL4 : Hid (Blk w4.drew gl 34 #[.int .i64 F, .int .i64 T]) := BL4
        replace SA4 : Hid (SpH w4.drew (some ⟨ba, oa, none⟩) a) := SA4
        replace HB4 : Hid (Below w.heap.size w w4.drew) := HB4.out.drew
        obtain ⟨x, y, ix, HBD⟩ : ∃ x y, (∀ w, (Instr.index 51 (.agg #[.int .i64 (T + 1), .int .i64 (T + 1), .int .i64 (T), .int .i64 (T + 1), .int .i64 (T - 1), .int .i64 (T + 1), .int .i64 (-1), .int .i64 (2), .int .i64 (T + 1), .int .i64 (65537), .int .i64 (F), .int .i64 (T)]) (.int .u8 c)).run Try.prog w = .ok (.agg #[.int .i64 x, .int .i64 y]) w) ∧ Hid (BadSp F T (x, y)) := by
          rcases hcb with rfl | rfl | rfl | rfl | rfl | rfl
          · exact ⟨T + 1, T + 1, fun _ => by kernel_rfl, (.inl rfl : BadSp F T (T + 1, T + 1))⟩
          · exact ⟨T, T + 1, fun _ => by kernel_rfl, (.inr (.inl rfl) : BadSp F T (T, T + 1))⟩
          · exact ⟨T - 1, T + 1, fun _ => by kernel_rfl, (.inr (.inr (.inl rfl)) : BadSp F T (T - 1, T + 1))⟩
          · exact ⟨-1, 2, fun _ => by kernel_rfl, (.inr (.inr (.inr (.inl rfl))) : BadSp F T (-1, 2))⟩
          · exact ⟨T + 1, 65537, fun _ => by kernel_rfl, (.inr (.inr (.inr (.inr (.inl rfl)))) : BadSp F T (T + 1, 65537))⟩
          · exact ⟨F, T, fun _ => by kernel_rfl, (.inr (.inr (.inr (.inr (.inr (rfl))))) : BadSp F T (F, T))⟩
        obtain ⟨hc0, hc5⟩ : 0 ≤ c ∧ c < 6 := by omega
        clear hcb
        go_region_held3 (fun w' => w'.cell? ⟨gl, 0, none⟩ = some (.int .i64 F) ∧ w'.cell? ⟨gl, 1, none⟩ = some (.int .i64 T)) (first | exact ⟨(BL4.out.cell 0).trans rfl, (BL4.out.cell 1).trans rfl⟩ | exact ⟨((BL4.out.alloc _).cell 0).trans rfl, ((BL4.out.alloc _).cell 1).trans rfl⟩) (first | (go_at_call 31; refine (to_any _ _ _).mono ?_; rintro e w5 ⟨rfl, h⟩; replace HO4 := hid (HO4.out.below h); replace BL4 := hid (BL4.out.below h BL4.out.lt); replace SA4 := hid (SA4.out.below h); replace HB4 := hid (HB4.out.trans (h.mono HB4.out.size)); clear h) | (refine step_append_own rfl _ _ 22 rfl (gl + 1) 34 i0 (.agg #[.int .i64 0, .int .i64 0]) 2 16 Try.underlying22 HI.out HZ.out HZ1.out HZ2.out rfl (by decide) v' a.length (cellsOf a) rfl (HO4.out.alloc _) ⟨w5.heap.size, 0, none⟩ 1 1 [.int .i64 x, .int .i64 y] rfl rfl (cell_two_new rfl _ _ _) (two_one _ _) m63 mby (le_alloc (Nat.succ_le_of_lt BL4.out.lt) _) ?_; intro v9 w9 hown9 hgrow9 _; obtain ⟨ho9, h59⟩ := after_append (Nat.succ_le_of_lt BL4.out.lt) HO4.out hown9 hgrow9; replace HO4 := hid ho9; replace BL4 := hid (BL4.out.below h59 (Nat.lt_succ_self _)); replace SA4 := hid (SA4.out.low hba2 h59); replace HB4 := hid (HB4.out.trans (h59.mono HG2.out)); clear hown9 hgrow9 ho9 h59))
        go_wp2
        go_meet
        exact ⟨_, HBD, HO4.out, BL4.out, SA4, HB4⟩
      case rest =>
        obtain ⟨s, HBD, ho, BL, Sa, HB⟩ := hcut
        replace BL := hid BL
        have Hs := hid (bad_not hq (s := s) (by rw [HF.out, HT.out]; exact HBD.out))
        have hr : (a ++ [s]).length = q + 2 := by rw [List.length_append, hq]; rfl
        obtain ⟨Ar, cr, rfl, hcr, _, Sr⟩ := ho.view
        replace Sr := hid Sr
        clear ho HBD HO4 HB4 SA4 BL4 HG
        rw [hr] at hcr ⊢
        generalize a ++ [s] = r at *
        have k0 := (BL.out.cell 0).trans (b := some (Value.int .i64 F)) rfl
        have k1 := (BL.out.cell 1).trans (b := some (Value.int .i64 T)) rfl
        have Nra := hid (show ¬ (IsSet r ∧ IsSet a) from fun h => Hs.out h.1)
        have Nar := hid (show ¬ (IsSet a ∧ IsSet r) from fun h => Hs.out h.2)
        have Nrr := hid (show ¬ (IsSet r ∧ IsSet r) from fun h => Hs.out h.1)
        have e0 : ((q + 2 : Nat) : Int) = (q : Int) + 2 := by omega
        go_wp2_with fail
        refine (bad_ret (union_any r a _ _ _ _ _ _ _ hr hq (by omega) (by omega) Sr.out Sa.out) (if_neg Nra.out) (if_neg Nra.out)).mono ?_
        rintro e u1 ⟨⟨_, _, rfl⟩, h⟩
        replace Sa := hid (Sa.out.below h)
        replace Sr := hid (Sr.out.below h)
        clear k0 k1
        replace BL := hid (BL.out.below h BL.out.lt)
        have k0 := (BL.out.cell 0).trans (b := some (Value.int .i64 F)) rfl
        have k1 := (BL.out.cell 1).trans (b := some (Value.int .i64 T)) rfl
        replace HB := hid (HB.out.trans (h.mono HB.out.size))
        clear h
        go_wp2_with fail
        refine (bad_ret (meet_any a r _ _ _ _ _ _ _ hq hr (by omega) (by omega) Sa.out Sr.out) (if_neg Nar.out) (if_neg Nar.out)).mono ?_
        rintro e u2 ⟨⟨_, _, rfl⟩, h⟩
        replace Sa := hid (Sa.out.below h)
        replace Sr := hid (Sr.out.below h)
        clear k0 k1
        replace BL := hid (BL.out.below h BL.out.lt)
        have k0 := (BL.out.cell 0).trans (b := some (Value.int .i64 F)) rfl
        have k1 := (BL.out.cell 1).trans (b := some (Value.int .i64 T)) rfl
        replace HB := hid (HB.out.trans (h.mono HB.out.size))
        clear h
        go_wp2_with fail
        refine (bad_ret (minus_any r r _ _ _ _ _ _ _ hr hr (by omega) (by omega) Sr.out Sr.out) (if_neg Nrr.out) (if_neg Nrr.out)).mono ?_
        rintro e u3 ⟨⟨_, _, rfl⟩, h⟩
        replace Sa := hid (Sa.out.below h)
        replace Sr := hid (Sr.out.below h)
        clear k0 k1
        replace BL := hid (BL.out.below h BL.out.lt)
        have k0 := (BL.out.cell 0).trans (b := some (Value.int .i64 F)) rfl
        have k1 := (BL.out.cell 1).trans (b := some (Value.int .i64 T)) rfl
        replace HB := hid (HB.out.trans (h.mono HB.out.size))
        clear h
        go_wp2_with fail
        refine (bad_ret (bridge_no r _ _ _ _ _ hr (by omega) (fun h => Hs.out h.1) Sr.out) rfl rfl).mono ?_
        rintro e u4 ⟨⟨_, _, rfl⟩, h⟩
        replace Sa := hid (Sa.out.below h)
        replace Sr := hid (Sr.out.below h)
        clear k0 k1
        replace BL := hid (BL.out.below h BL.out.lt)
        have k0 := (BL.out.cell 0).trans (b := some (Value.int .i64 F)) rfl
        have k1 := (BL.out.cell 1).trans (b := some (Value.int .i64 T)) rfl
        replace HB := hid (HB.out.trans (h.mono HB.out.size))
        clear h
        go_wp2_with fail
        refine (nth_no r _ _ _ _ _ hr (by omega) (fun h => Hs.out h.1) Sr.out).mono ?_
        rintro e u5 ⟨rfl, h⟩
        replace Sa := hid (Sa.out.below h)
        replace Sr := hid (Sr.out.below h)
        clear k0 k1
        replace BL := hid (BL.out.below h BL.out.lt)
        have k0 := (BL.out.cell 0).trans (b := some (Value.int .i64 F)) rfl
        have k1 := (BL.out.cell 1).trans (b := some (Value.int .i64 T)) rfl
        replace HB := hid (HB.out.trans (h.mono HB.out.size))
        clear h
        go_wp2_with fail
        refine (valid_eq (la := r) (r := false) (validB_false.2 Hs.out) hr (by omega) Sr.out).mono ?_
        rintro e u6 ⟨rfl, h⟩
        replace Sa := hid (Sa.out.below h)
        replace Sr := hid (Sr.out.below h)
        clear k0 k1
        replace BL := hid (BL.out.below h BL.out.lt)
        have k0 := (BL.out.cell 0).trans (b := some (Value.int .i64 F)) rfl
        have k1 := (BL.out.cell 1).trans (b := some (Value.int .i64 T)) rfl
        replace HB := hid (HB.out.trans (h.mono HB.out.size))
        clear h
        go_wp2_with fail
        refine (valid_eq (la := a) (r := true) (validB_true.2 Ia.out) hq (by omega) Sa.out).mono ?_
        rintro e u7 ⟨rfl, h⟩
        replace Sa := hid (Sa.out.below h)
        replace Sr := hid (Sr.out.below h)
        clear k0 k1
        replace BL := hid (BL.out.below h BL.out.lt)
        have k0 := (BL.out.cell 0).trans (b := some (Value.int .i64 F)) rfl
        have k1 := (BL.out.cell 1).trans (b := some (Value.int .i64 T)) rfl
        replace HB := hid (HB.out.trans (h.mono HB.out.size))
        clear h
        go_wp2_with fail
        refine (has_no r _ _ _ _ _ hr (by omega) Hs.out Sr.out).mono ?_
        rintro e u8 ⟨rfl, h⟩
        replace Sa := hid (Sa.out.below h)
        replace Sr := hid (Sr.out.below h)
        clear k0 k1
        replace BL := hid (BL.out.below h BL.out.lt)
        have k0 := (BL.out.cell 0).trans (b := some (Value.int .i64 F)) rfl
        have k1 := (BL.out.cell 1).trans (b := some (Value.int .i64 T)) rfl
        replace HB := hid (HB.out.trans (h.mono HB.out.size))
        clear h
        go_wp2_with fail
        refine (within_no r a _ _ _ _ _ _ _ hr hq (by omega) (by omega) Nra.out Sr.out Sa.out).mono ?_
        rintro e u9 ⟨rfl, h⟩
        replace Sa := hid (Sa.out.below h)
        replace Sr := hid (Sr.out.below h)
        clear k0 k1
        replace BL := hid (BL.out.below h BL.out.lt)
        have k0 := (BL.out.cell 0).trans (b := some (Value.int .i64 F)) rfl
        have k1 := (BL.out.cell 1).trans (b := some (Value.int .i64 T)) rfl
        replace HB := hid (HB.out.trans (h.mono HB.out.size))
        clear h
        go_wp2_with fail
        refine (within_no a r _ _ _ _ _ _ _ hq hr (by omega) (by omega) Nar.out Sa.out Sr.out).mono ?_
        rintro e u10 ⟨rfl, h⟩
        replace Sa := hid (Sa.out.below h)
        replace Sr := hid (Sr.out.below h)
        clear k0 k1
        replace BL := hid (BL.out.below h BL.out.lt)
        have k0 := (BL.out.cell 0).trans (b := some (Value.int .i64 F)) rfl
        have k1 := (BL.out.cell 1).trans (b := some (Value.int .i64 T)) rfl
        replace HB := hid (HB.out.trans (h.mono HB.out.size))
        clear h
        go_wp2_with fail
        refine (days_no r _ _ _ _ hr (by omega) Hs.out Sr.out).mono ?_
        rintro e u11 ⟨rfl, h⟩
        replace Sa := hid (Sa.out.below h)
        replace Sr := hid (Sr.out.below h)
        clear k0 k1
        replace BL := hid (BL.out.below h BL.out.lt)
        have k0 := (BL.out.cell 0).trans (b := some (Value.int .i64 F)) rfl
        have k1 := (BL.out.cell 1).trans (b := some (Value.int .i64 T)) rfl
        replace HB := hid (HB.out.trans (h.mono HB.out.size))
        clear h
        go_wp2_with fail
        refine (before_no r _ _ _ _ _ hr (by omega) Hs.out Sr.out).mono ?_
        rintro e u12 ⟨rfl, h⟩
        replace Sa := hid (Sa.out.below h)
        replace Sr := hid (Sr.out.below h)
        clear k0 k1
        replace BL := hid (BL.out.below h BL.out.lt)
        have k0 := (BL.out.cell 0).trans (b := some (Value.int .i64 F)) rfl
        have k1 := (BL.out.cell 1).trans (b := some (Value.int .i64 T)) rfl
        replace HB := hid (HB.out.trans (h.mono HB.out.size))
        clear h
        go_wp2
        go_ret
        exact ⟨rfl, HB.out⟩
end Go.Proofs.Ytpafnakepgjmnaa
