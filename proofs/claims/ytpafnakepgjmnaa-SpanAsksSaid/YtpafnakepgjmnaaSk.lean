/- ordered and Make. -/
import Derived.Test.YtpafnakepgjmnaaSj
import Derived.Test.YtpafnakepgjmnaaSp4
namespace Go.Proofs.Ytpafnakepgjmnaa
open Go.RowKit Go.Lib Go.Shelf

set_option maxRecDepth 100000 in
set_option maxHeartbeats 2000000 in
theorem clone_some (l : List Sp) (a : Addr) (n c : Nat) (w : World) (hn : Hid (l.length = n)) (hm : n ≤ 8796093022208) (hA : SpH w (some a) l) :
    Calls Try.prog 65 #[.slice (some a) n c] w (RetSp w l) := by
  obtain ⟨i0, hi, hz0, hz1, hz2⟩ := info_parts info_sp
  have HI := hid hi
  have HZ := hid hz0
  have HZ1 := hid hz1
  have HZ2 := hid hz2
  have HC : Hid (∀ j u, (cellsOf l)[j]? = some u → w.cell? (a.add j) = some u) := fun j u hu => by
    have hj : j < l.length * 2 := by have := (List.getElem?_eq_some_iff.1 hu).1; rwa [cells_len] at this
    obtain ⟨b, off, e, _, _⟩ := hA (by intro g; subst g; simp at hj)
    cases e
    have e : (⟨b, off, none⟩ : Addr).add j = ⟨b, off + j, none⟩ := by
      unfold Addr.add
      split
      · rename_i h; subst h; rfl
      · rfl
    rw [e]; exact hA.cellsAt j u hu
  clear hi hz0 hz1 hz2 hA
  have hq : ∀ (w : World) (a : Option Addr) (n c n' c' : Nat), (binOp .eql 22 (.slice a n c) (.slice none n' c')).run Try.prog w = .ok (.bool a.isNone) w := fun w a n c n' c' => Lib.run_eql_slice_nil w _ _ a n c n' c' Try.underlying22
  go_enter Try.func65, Try.ntmps65
  go_wp2_with (at_builtin; refine wpList_append_own _ rfl _ _ 22 rfl w.heap.size 34 i0 (.agg #[.int .i64 0, .int .i64 0]) 2 16 Try.underlying22 HI.out HZ.out HZ1.out HZ2.out rfl (by decide) _ _ _ rfl (World.ownsRow_made w #[] 0 (Nat.le_refl _) (Nat.zero_le _) (by simp)) a n c (cellsOf l) rfl (by rw [cells_len, hn.out]) (fun j u hu => by
    have h1 := HC.out j u hu
    have : a.block < w.heap.size ∨ w.heap.size ≤ a.block := Nat.lt_or_ge _ _
    rcases this with h | h
    · have hb : (a.add j).block = a.block := by unfold Addr.add; split <;> rfl
      rw [World.cell?_alloc_lt w _ (a.add j) (by rw [hb]; exact h)]; exact h1
    · have hb : (a.add j).block = a.block := by unfold Addr.add; split <;> rfl
      simp [World.cell?, hb, Array.getElem?_eq_none h] at h1) cells_one (by unfold maxLen; omega) (by omega) (by simp) ?_; intro v' w1 hown1 hgrow1 _)
  have HO : Hid (OwnSp w1 w.heap.size v' l) := by
    show w1.ownsRow _ _ _ _ _ _
    rw [hn.out]
    simpa using hown1
  have HB : Hid (Below w.heap.size w w1) := ((Below.refl w.heap.size w).alloc (Nat.le_refl _) _).grown hgrow1 (by simp) (fun k e => Nat.le_of_eq (Option.some.inj (show some w.heap.size = some k from e)))
  clear hown1 hgrow1
  go_wp2
  go_ret
  exact ⟨_, rfl, HO.out, HB.out⟩
set_option maxRecDepth 100000 in
set_option maxHeartbeats 2000000 in
theorem clone_none (c : Nat) (w : World) :
    Calls Try.prog 65 #[.slice none 0 c] w (RetSp w []) := by
  have hq : ∀ (w : World) (a : Option Addr) (n c n' c' : Nat), (binOp .eql 22 (.slice a n c) (.slice none n' c')).run Try.prog w = .ok (.bool a.isNone) w := fun w a n c n' c' => Lib.run_eql_slice_nil w _ _ a n c n' c' Try.underlying22
  go_enter Try.func65, Try.ntmps65
  go_wp2
  go_ret
  exact ⟨_, rfl, ownSp_nil _ _, Below.refl _ _⟩
theorem cloned_any (l : List Sp) (A : Option Addr) (n c : Nat) (w : World) (hn : Hid (l.length = n)) (hm : n ≤ 8796093022208) (hA : SpH w A l) :
    Calls Try.prog 65 #[.slice A n c] w (RetSp w l) := by
  cases A with
  | some a => exact clone_some l a n c w hn hm hA
  | none =>
    have h0 : l = [] := by
      by_cases g : l = []
      · exact g
      · obtain ⟨_, _, e, _⟩ := hA g; cases e
    subst h0
    obtain rfl : n = 0 := hn.out.symm
    exact clone_none c w

set_option maxRecDepth 100000 in
set_option maxHeartbeats 2000000 in
theorem delete_none (w : World) :
    Calls Try.prog 64 #[.slice none 0 0, .func (.func 47) #[] #[]] w fun e w' => e = .returned (.slice none 0 0) ∧ Below w.heap.size w w' := by
  have HI := hid (index_any [] none 0 0 w rfl (by omega) (spH_nil w none))
  go_enter Try.func64, Try.ntmps64
  go_wp2_with fail
  refine HI.out.mono ?_
  rintro e w1 ⟨h1, ⟨hall, rfl⟩ | ⟨k, hk, _⟩⟩
  · clear hall
    go_wp2
    go_ret
    exact ⟨rfl, h1⟩
  · omega

theorem deleted_any (l : List Sp) (v : Value) (base : Nat) (w : World) (hm : l.length ≤ 8796093022208) (hbase : base ≤ w.heap.size) (ho : OwnSp w base v l) :
    Calls Try.prog 64 #[v, .func (.func 47) #[] #[]] w fun e w' => ∃ v', e = .returned v' ∧ OwnSp w' base v' (full l) ∧ Below base w w' := by
  have ho' := ho
  rcases ho.2 with ⟨rfl, h0⟩ | ⟨g, cap, cur, rfl, h2, _⟩
  · obtain rfl : l = [] := List.eq_nil_of_length_eq_zero h0
    exact (delete_none w).mono fun e w' ⟨he, hb⟩ => ⟨_, he, ownSp_nil _ _, hb.mono hbase⟩
  · exact (delete_any l g l.length cap base w rfl hm hbase ho').mono fun e w' ⟨he, h1, h2⟩ => ⟨_, he, h1, h2⟩
theorem full_vd {l : List Sp} (h : Vd l) : Vd (full l) := fun s hs => h s ((List.mem_filter.1 hs).1)
theorem full_lt {l : List Sp} (h : Vd l) : ∀ s ∈ full l, 0 ≤ s.1 ∧ s.1 < s.2 ∧ s.2 ≤ 65536 := fun s hs => by
  have h1 := h s ((List.mem_filter.1 hs).1)
  have h2 := (List.mem_filter.1 hs).2
  simp at h2
  omega
theorem full_mem (l : List Sp) (x : Int) : memB (full l) x = memB l x := by
  induction l with
  | nil => rfl
  | cons s l ih =>
    unfold full at ih ⊢
    rw [List.filter_cons]
    by_cases g : s.1 = s.2
    · rw [if_neg (by simp [g]), ih, memB_cons]
      have : (decide (s.1 ≤ x) && decide (x < s.2)) = false := by rw [Bool.eq_false_iff]; simp; omega
      rw [this]; rfl
    · rw [if_pos (by simp [g]), memB_cons, memB_cons, ih]
theorem full_len (l : List Sp) : (full l).length ≤ l.length := List.length_filter_le _ _

theorem sorted_any (l : List Sp) (v : Value) (base : Nat) (w : World) (hm : l.length ≤ 8796093022208) (hv : Vd l) (hbase : base ≤ w.heap.size) (ho : OwnSp w base v l) :
    Calls Try.prog 66 #[v, .func (.func 67) #[] #[]] w fun e w' => e = .returned (.tuple #[]) ∧ ∃ A c l', v = .slice A l.length c ∧ l'.Perm l ∧ SortedFr l' ∧ SpH w' A l' ∧ Below base w w' := by
  have ho' := ho
  rcases ho.2 with ⟨rfl, h0⟩ | ⟨g, cap, cur, rfl, h2, _⟩
  · obtain rfl : l = [] := List.eq_nil_of_length_eq_zero h0
    exact (sort_none none 0 w).mono fun e w' ⟨he, hw⟩ => ⟨he, none, 0, [], rfl, List.Perm.refl _, fun i j _ hj => by simp at hj, spH_nil _ _, by subst hw; exact Below.refl _ _⟩
  · exact (sort_any l g l.length cap base w rfl hm hv ho').mono fun e w' ⟨he, l', h1, h2, h3, h4⟩ => ⟨he, _, _, l', rfl, h1, h2, h3, h4⟩

/-- A slice of valid spans that are not empty, by From, that hold the same days. -/
def Ordered (w : World) (l : List Sp) (e : Ending) (w' : World) : Prop :=
  ∃ A c l', e = .returned (.slice A l'.length c) ∧ l'.length ≤ l.length ∧ l'.Perm (full l) ∧ SortedFr l' ∧ SpH w' A l' ∧ Below w.heap.size w w'

set_option maxRecDepth 100000 in
set_option maxHeartbeats 2000000 in
theorem ordered_any (l : List Sp) (A : Option Addr) (n c : Nat) (w : World) (hn : Hid (l.length = n)) (hm : n ≤ 8796093022208) (hv : Hid (Vd l)) (hA : SpH w A l) :
    Calls Try.prog 52 #[.slice A n c] w (Ordered w l) := by
  have HA := hid hA
  clear hA
  go_enter Try.func52, Try.ntmps52
  go_wp2_with fail
  refine (cloned_any l A n c w hn hm HA.out).mono ?_
  rintro e w1 ⟨v1, rfl, o1, h1⟩
  have HO1 := hid o1
  obtain ⟨A1, c1, rfl, _, _, _⟩ := o1.view
  clear o1
  go_wp2_with fail
  refine (deleted_any l _ w.heap.size w1 (by have := hn.out; omega) h1.size HO1.out).mono ?_
  rintro e w2 ⟨v2, rfl, o2, h2⟩
  have HO2 := hid o2
  obtain ⟨A2, c2, rfl, _, _, _⟩ := o2.view
  have hb2 := h1.trans h2
  clear o2 h1 h2
  go_wp2_with fail
  refine (sorted_any (full l) _ w.heap.size w2 (by have := hn.out; have := full_len l; omega) (full_vd hv.out) hb2.size HO2.out).mono ?_
  rintro e w3 ⟨rfl, A3, c3, l3, he3, p3, s3, k3, h3⟩
  cases he3
  have hl3 : (full l).length = l3.length := p3.length_eq.symm
  have HF : Hid (Ordered w l (.returned (.slice A2 (full l).length c2)) w3) := ⟨A2, c2, l3, by rw [hl3], by have := full_len l; omega, p3, s3, k3, hb2.trans h3⟩
  clear p3 s3 k3 h3 hl3
  go_wp2
  go_ret
  exact HF.out

set_option maxRecDepth 100000 in
set_option maxHeartbeats 2000000 in
theorem make_yes (l : List Sp) (A : Option Addr) (n c : Nat) (w : World) (hn : Hid (l.length = n)) (hm : n ≤ 8796093022000) (hv : Hid (Vd l)) (hA : SpH w A l) :
    Calls Try.prog 26 #[.slice A n c] w (RetSpE w (norm (memB l)) 0) := by
  have HA := hid hA
  clear hA
  go_enter Try.func26, Try.ntmps26
  go_wp2
  go_loopw [8] (fun i wr => ∃ k : Nat, k ≤ n ∧ i = .int .i64 k ∧ Below w.heap.size w wr) (fun i _ => n - (intOf i).toNat)
  case atStart => exact ⟨0, by omega, rfl, Below.refl _ _⟩
  case round =>
    obtain ⟨k, hk, rfl, hb⟩ := hrel
    have HB := hid hb
    by_cases hlt : k < n
    · obtain ⟨b, off, rfl, hbl, hc⟩ := HA.out.at_ hn.out (by omega)
      obtain ⟨x, hx⟩ : ∃ x, fr l k = x := ⟨_, rfl⟩
      obtain ⟨y, hy⟩ : ∃ y, tt l k = y := ⟨_, rfl⟩
      have c0 := (hb.cell (p := ⟨b, off + k * 2, none⟩) hbl).trans (hc k hlt).1
      have c1 := (hb.cell (p := ⟨b, off + k * 2 + 1, none⟩) hbl).trans (hc k hlt).2
      rw [hx] at c0
      rw [hy] at c1
      have hat := hv.out.at_ (i := k) (by have := hn.out; omega)
      rw [hx, hy] at hat
      have HOK := hid (okB_true.2 hat)
      clear hx hy hb hc hat
      go_wp2_with fail
      refine (isSpan_any _ _ _).mono ?_
      rintro e w1 ⟨rfl, h1⟩
      rw [HOK.out]
      have hb1 := HB.out.trans ((below_new h1).mono HB.out.size)
      clear h1
      go_wp2
      go_roundw
      case rel => exact ⟨k + 1, by omega, by go_num, hb1⟩
      case measure => simp [intOf]; omega
    · clear hb
      go_wp2_with fail
      refine (ordered_any l A n c wr hn (by omega) hv (HA.out.below HB.out)).mono ?_
      rintro e w1 ⟨A1, c1, l1, rfl, hl1, p1, s1, k1, h1⟩
      have hfl := full_lt hv.out
      have hl1n : l1.length ≤ 8796093022000 := by have := hn.out; omega
      have HM : Hid (mergeL 0 l1 = norm (memB l)) := by
        show _ = _
        rw [merge_sorted (fun r hr => hfl r (p1.mem_iff.1 hr)) s1]
        congr 1
        funext x
        rw [memB_perm p1, full_mem]
      have HV1 : Hid (Vd l1) := fun r hr => by have := hfl r (p1.mem_iff.1 hr); omega
      have HK1 := hid k1
      have HB1 := hid (HB.out.trans (h1.mono HB.out.size))
      clear hl1 p1 s1 k1 h1 hfl
      go_wp2_with fail
      refine (merge_any l1 A1 l1.length c1 0 w1 rfl hl1n HV1.out (by omega) HK1.out).mono ?_
      rintro e w2 ⟨v2, rfl, o2, h2⟩
      rw [HM.out] at o2
      have HO2 := hid (o2.mono HB1.out.size)
      obtain ⟨A2, c2, rfl, _, _, _⟩ := o2.view
      have HB2 := hid (HB1.out.trans (h2.mono HB1.out.size))
      clear o2 h2
      go_wp2
      go_ret2
      exact ⟨_, rfl, HO2.out, HB2.out⟩
set_option maxRecDepth 100000 in
set_option maxHeartbeats 2000000 in
theorem make_no (l : List Sp) (A : Option Addr) (n c : Nat) (w : World) (hn : Hid (l.length = n)) (hm : n ≤ 4611686018427387904) (hv : Hid (¬ Vd l)) (hA : SpH w A l) :
    Calls Try.prog 26 #[.slice A n c] w (RetSpE w [] 2) := by
  have HA := hid hA
  clear hA
  go_enter Try.func26, Try.ntmps26
  go_wp2
  go_loopw [8] (fun i wr => ∃ k : Nat, k ≤ n ∧ i = .int .i64 k ∧ Below w.heap.size w wr ∧ Hid (∀ i, i < k → okB (fr l i) (tt l i) = true)) (fun i _ => n - (intOf i).toNat)
  case atStart => exact ⟨0, by omega, rfl, Below.refl _ _, fun i hi => absurd hi (by omega)⟩
  case round =>
    obtain ⟨k, hk, rfl, hb, HG⟩ := hrel
    have HB := hid hb
    by_cases hlt : k < n
    · obtain ⟨b, off, rfl, hbl, hc⟩ := HA.out.at_ hn.out (by omega)
      obtain ⟨x, hx⟩ : ∃ x, fr l k = x := ⟨_, rfl⟩
      obtain ⟨y, hy⟩ : ∃ y, tt l k = y := ⟨_, rfl⟩
      have c0 := (hb.cell (p := ⟨b, off + k * 2, none⟩) hbl).trans (hc k hlt).1
      have c1 := (hb.cell (p := ⟨b, off + k * 2 + 1, none⟩) hbl).trans (hc k hlt).2
      rw [hx] at c0
      rw [hy] at c1
      have HX := hid hx
      have HY := hid hy
      clear hx hy hb hc
      go_wp2_with fail
      refine (isSpan_any _ _ _).mono ?_
      rintro e w1 ⟨rfl, h1⟩
      have hb1 := HB.out.trans ((below_new h1).mono HB.out.size)
      clear h1
      cases hok : okB x y
      · go_wp2
        go_ret2
        exact ⟨_, rfl, ownSp_nil _ _, hb1⟩
      · have HGS : Hid (∀ i, i < k + 1 → okB (fr l i) (tt l i) = true) := fun i hi => by
          by_cases g : i = k
          · subst g; rw [HX.out, HY.out]; exact hok
          · exact HG.out i (by omega)
        clear hok
        go_wp2
        go_roundw
        case rel => exact ⟨k + 1, by omega, by go_num, hb1, HGS⟩
        case measure => simp [intOf]; omega
    · exfalso
      refine hv.out fun s hs => ?_
      obtain ⟨i, hi, rfl⟩ := List.getElem_of_mem hs
      have := okB_true.1 (HG.out i (by have := hn.out; omega))
      unfold fr tt at this
      rwa [List.getD_eq_getElem?_getD, List.getElem?_eq_getElem hi] at this
instance (l : List Sp) : Decidable (Vd l) := by unfold Vd; infer_instance
end Go.Proofs.Ytpafnakepgjmnaa
