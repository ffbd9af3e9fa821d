/- DeleteFunc at empty spans. -/
import Derived.Test.YtpafnakepgjmnaaSg
namespace Go.Proofs.Ytpafnakepgjmnaa
open Go.RowKit Go.Lib Go.Shelf

theorem zero_sp : ∀ w : World, (zeroValue 34).run Try.prog w = .ok (.agg #[.int .i64 0, .int .i64 0]) w := Try.zeroValue34

/-- What DeleteFunc leaves: the slice cut to the spans that are not empty. -/
def Struck (w : World) (base : Nat) (A : Option Addr) (c : Nat) (l : List Sp) (e : Ending) (w' : World) : Prop :=
  e = .returned (.slice A (full l).length c) ∧ OwnSp w' base (.slice A (full l).length c) (full l) ∧ Below base w w'

set_option maxRecDepth 100000 in
set_option maxHeartbeats 2000000 in
theorem delete_any (l : List Sp) (g n c base : Nat) (w : World) (hn : Hid (l.length = n)) (hm : n ≤ 8796093022208) (hbase : base ≤ w.heap.size) (ho : OwnSp w base (.slice (some ⟨g, 0, none⟩) n c) l) :
    Calls Try.prog 64 #[.slice (some ⟨g, 0, none⟩) n c, .func (.func 47) #[] #[]] w (Struck w base (some ⟨g, 0, none⟩) c l) := by
  have hA : SpH w (some ⟨g, 0, none⟩) l := by
    obtain ⟨A, c', e, _, _, h⟩ := ho.view
    cases e
    exact h
  obtain ⟨hg1, hg2, hnc⟩ := ho.base_le
  have HI := hid (index_any l (some ⟨g, 0, none⟩) n c w hn (by omega) hA)
  have HO := hid ho
  clear ho hA
  go_enter Try.func64, Try.ntmps64
  go_wp2_with fail
  refine HI.out.mono ?_
  rintro e w1 ⟨h1, ⟨hall, rfl⟩ | ⟨k, hk, hlow, heq, rfl⟩⟩
  · have HF : Hid (full l = l) := by
      have := full_all (l := l) (k := n) (by have := hn.out; omega) hall
      rwa [List.take_of_length_le (by have := hn.out; omega)] at this
    have HB : Hid (Below base w w1) := h1.mono hbase
    have HO1 := hid (HO.out.below h1)
    clear hall h1
    go_wp2
    go_ret
    refine ⟨?_, ?_, HB.out⟩
    · rw [HF.out, hn.out]; rfl
    · rw [HF.out, hn.out]; exact HO1.out
  · have HK : Hid (KeptE l l k (k + 1)) := KeptE.start (by have := hn.out; omega) hlow heq
    have HB : Hid (Below base w w1) := h1.mono hbase
    have HO1 := hid (HO.out.below h1)
    have hkm : ((k : Int) == -1) = false := beq_eq_false_iff_ne.2 (by omega)
    clear hlow heq h1
    go_wp2
    go_loopw [5, 6] (fun s5 s6 wr => ∃ (i j : Nat) (L : List Sp), s5 = .int .i64 i ∧ s6 = .int .i64 j ∧ j ≤ n ∧ Hid (KeptE l L i j) ∧ Hid (OwnSp wr base (.slice (some ⟨g, 0, none⟩) n c) L) ∧ Below base w wr) (fun _ s6 _ => n - (intOf s6).toNat)
    case atStart => exact ⟨k, k + 1, l, rfl, by go_num, by omega, HK, HO1, HB.out⟩
    case round =>
      obtain ⟨i, j, L, rfl, rfl, hjn, HKE, HOW, hb⟩ := hrel
      have hij := HKE.out.lt
      have hLn : L.length = n := by have := HKE.out.len; have := hn.out; omega
      have HLN := hid hLn
      clear hLn
      by_cases hlt : j < n
      · have hcell := HOW.out.cellIn HLN.out hlt
        have hcelli := HOW.out.cellIn HLN.out (i := i) (by omega)
        have hfi0 := HOW.out.frozenIn (i * 2)
        have hfi1 := HOW.out.frozenIn (i * 2 + 1)
        have e1 : fr L j = fr l j := by unfold fr; rw [List.getD_eq_getElem?_getD, List.getD_eq_getElem?_getD, HKE.out.high j (Nat.le_refl _) (by have := hn.out; omega)]
        have e2 : tt L j = tt l j := by unfold tt; rw [List.getD_eq_getElem?_getD, List.getD_eq_getElem?_getD, HKE.out.high j (Nat.le_refl _) (by have := hn.out; omega)]
        rw [e1, e2] at hcell
        obtain ⟨x, hx⟩ : ∃ x, fr l j = x := ⟨_, rfl⟩
        obtain ⟨y, hy⟩ : ∃ y, tt l j = y := ⟨_, rfl⟩
        rw [hx, hy] at hcell
        obtain ⟨c0, c1⟩ := hcell
        have HX := hid hx
        have HY := hid hy
        have hgr := HOW.out.base_le
        have hgw : g < wr.heap.size := hgr.2.1
        have HB2 := hid hb
        clear e1 e2 hx hy hgr hb
        go_wp2_with fail
        refine (isEmpty_any _ _ _).mono ?_
        rintro e w2 ⟨rfl, h2⟩
        have HOW2 := hid (HOW.out.below (below_new h2))
        have HB3 := hid (HB2.out.trans ((below_new h2).mono (Nat.le_trans hbase (by have := HB2.out.size; have := HB2.out; exact this.size))))
        have b2 := (Blk.new wr 34 #[.int .i64 x, .int .i64 y]).below h2 (by simp)
        have q0 := (b2.cell 0).trans (b := some (Value.int .i64 x)) rfl
        have q1 := (b2.cell 1).trans (b := some (Value.int .i64 y)) rfl
        obtain ⟨bc, bf⟩ := bcell (below_new h2)
        have d0 := (bc g (i * 2) hgw).trans hcelli.1
        have d1 := (bc g (i * 2 + 1) hgw).trans hcelli.2
        have f0 := (bf g (i * 2) hgw).trans hfi0
        have f1 := (bf g (i * 2 + 1) hgw).trans hfi1
        clear h2 bc bf hcelli hfi0 hfi1 b2 c0 c1
        cases hem : emB x y
        · have HE : Hid (fr l j ≠ tt l j) := by show _ ≠ _; rw [HX.out, HY.out]; exact of_decide_eq_false hem
          clear hem
          have HKS := hid (HKE.out.keep (by have := hn.out; omega) HE.out)
          rw [HX.out, HY.out] at HKS
          have HS := hid (HOW2.out.store HLN.out (i := i) (by omega) x y)
          have HBS := hid ((HB3.out.setCell (p := ⟨g, i * 2, none⟩) hg1 (.int .i64 x)).setCell (p := ⟨g, i * 2 + 1, none⟩) hg1 (.int .i64 y))
          go_wp2
          go_roundw
          case rel => exact ⟨i + 1, j + 1, L.set i (x, y), by go_num, by go_num, by omega, HKS, HS, HBS.out⟩
          case measure => simp [intOf]; omega
        · have HE : Hid (fr l j = tt l j) := by show _ = _; rw [HX.out, HY.out]; exact of_decide_eq_true hem
          have HKS := hid (HKE.out.skip (by have := hn.out; omega) HE.out)
          clear hem
          go_wp2
          go_roundw
          case rel => exact ⟨i, j + 1, L, rfl, by go_num, by omega, HKS, HOW2, HB3.out⟩
          case measure => simp [intOf]; omega
      · obtain rfl : j = n := by omega
        have hic : i < c := by omega
        have hinn : i < j := by omega
        have hgr := HOW.out.base_le
        have hcl : ∀ ty, (Builtin.clear_ #[22] ty #[.slice (some ⟨g, i * 2, none⟩) (j - i) (c - i)]).run Try.prog wr = .ok (.tuple #[]) (wr.setCells g (i * 2) (List.replicate ((j - i) * 2) (.int .i64 0))) :=
          fun ty => run_clear2 wr 22 34 ty Try.underlying22 zero_sp g (i * 2) _ _ (by omega) (fun t ht => by
            have hw := HOW.out
            unfold OwnSp at hw
            rw [HLN.out] at hw
            rw [hw.cellAt (i * 2 + t) (by omega), List.getElem?_eq_getElem (by rw [cells_len, HLN.out]; omega)]; rfl) (fun t ht => HOW.out.frozenIn _)
        have HP := hid ((HOW.out.pre HLN.out (i := i) (by omega)).above (by simp; have := HLN.out; omega) (List.replicate ((j - i) * 2) (.int .i64 0)) (o := i * 2) (Nat.le_refl _))
        have HBS := hid (below_setCells hb hg1 (List.replicate ((j - i) * 2) (.int .i64 0)) (i * 2))
        have HF : Hid (L.take i = full l ∧ (full l).length = i) := by
          have h1 := HKE.out.low
          have h2 := HKE.out.num
          have e : l.take j = l := List.take_of_length_le (by have := hn.out; omega)
          rw [e] at h1 h2
          exact ⟨h1, h2⟩
        rw [HF.out.1] at HP
        clear hgr hb
        go_wp2
        go_ret
        refine ⟨?_, ?_, HBS.out⟩
        · rw [HF.out.2]; rfl
        · rw [HF.out.2]; exact HP.out
end Go.Proofs.Ytpafnakepgjmnaa
