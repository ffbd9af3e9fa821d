/- The iterator over the days at which membership changes: what it hands to each round. -/
import Derived.RangeFuncNested
import Derived.RangeFuncBound
import Derived.RangeFuncCalls
import Derived.RangeFuncLeaves
import Derived.Shelf.Abstract
import Derived.Shelf.RegionOpen
import Derived.OwnWalkIn
import Derived.TacticsInMore
import Derived.LoopNIn
import Derived.LoopIn
import Derived.Sort.LoopGhostIn
import Derived.Sort.CutIn
import Derived.Test.YtpafnakepgjmnaaSm
namespace Go.Proofs.Ytpafnakepgjmnaa
open Go.RowKit Go.Lib Go.Shelf
attribute [local go_sem] Oper.semAt_some

theorem nxtI_le {a b : List Sp} {i j : Nat} (hi : i ≤ 2 * a.length) (h : nxtD a b i j ≠ 65537) : nxtI a b i j ≤ 2 * a.length := by
  unfold nxtI
  split
  · rename_i hh
    by_cases g : i < 2 * a.length
    · omega
    · exact absurd (hh.symm.trans (dayV_end (by omega))) h
  · exact hi
theorem nxtJ_le {a b : List Sp} {i j : Nat} (hj : j ≤ 2 * b.length) (h : nxtD a b i j ≠ 65537) : nxtJ a b i j ≤ 2 * b.length := by
  unfold nxtJ
  split
  · rename_i hh
    by_cases g : j < 2 * b.length
    · omega
    · exact absurd (hh.symm.trans (dayV_end (by omega))) h
  · exact hj
theorem nxt_more {a b : List Sp} {i j : Nat} (_h : nxtD a b i j ≠ 65537) : i + j < nxtI a b i j + nxtJ a b i j := by
  unfold nxtI nxtJ nxtD at *
  split <;> split <;> omega

theorem cell_lt {W : World} {p : Nat} {v : Value} (h : W.cell? ⟨p, 0, none⟩ = some v) : p < W.heap.size := by
  rcases Nat.lt_or_ge p W.heap.size with g | g
  · exact g
  · simp [World.cell?, Array.getElem?_eq_none g] at h

/-- The iterator's own two borders. -/
def Bord (S gl gr : Nat) (A B : Option Addr) (na ca nb cb i j : Nat) (W : World) : Prop :=
  S ≤ gl ∧ gl < S + 2 ∧ S ≤ gr ∧ gr < S + 2 ∧ gl ≠ gr ∧ Blk W gl 74 #[.slice A na ca, .int .i64 i] ∧ Blk W gr 74 #[.slice B nb cb, .int .i64 j] ∧ S + 2 ≤ W.heap.size

set_option maxRecDepth 100000 in
set_option maxHeartbeats 2000000 in
theorem changes_in (nf l : Nat) (hnf : 1 ≤ nf) (la lb : List Sp) (A B : Option Addr) (na ca nb cb p1 p2 S : Nat) (J : Nat → Nat → World → Prop) (Jx : World → Prop)
    (hna : Hid (la.length = na)) (hnb : Hid (lb.length = nb)) (hsa : Hid (IsSet la)) (hsb : Hid (IsSet lb)) (hma : na ≤ 65536) (hmb : nb ≤ 65536)
    (hJ1 : ∀ i j W, J i j W → SpH W A la ∧ SpH W B lb) (W0 : World) (hS : Hid (W0.heap.size = S)) (c1 : W0.cell? ⟨p1, 0, none⟩ = some (.slice A na ca)) (c2 : W0.cell? ⟨p2, 0, none⟩ = some (.slice B nb cb))
    (hJg : ∀ i j W W' row, J i j W → W.grownBy W' row → (∀ r, row = some r → S ≤ r ∧ r < S + 2) → J i j W')
    (hY : ∀ i j W, i ≤ 2 * na → j ≤ 2 * nb → nxtD la lb i j ≠ 65537 → S + 2 ≤ W.heap.size → J i j W → YieldAt Fence.wide (nf - 1) Try.prog l #[.int .i64 (nxtD la lb i j), .agg #[.bool (odd (nxtI la lb i j)), .bool (odd (nxtJ la lb i j))]] W fun e W' =>
      (e = .returned (.bool true) ∧ J (nxtI la lb i j) (nxtJ la lb i j) W' ∧ S + 2 ≤ W'.heap.size ∧ (∀ r, S ≤ r → r < S + 2 → W'.heap[r]? = W.heap[r]?)) ∨ (e = .returned (.bool false) ∧ Jx W'))
    (h0 : J 0 0 W0) :
    CallsIn Fence.wide nf Try.prog 60 #[.func (.yield l) #[] #[], .pointer (some ⟨p1, 0, none⟩), .pointer (some ⟨p2, 0, none⟩)] W0 fun e W' => (∃ v, e = .returned v) ∧ (J (2 * na) (2 * nb) W' ∨ Jx W') := by
  have hp1 : p1 < W0.heap.size := cell_lt c1
  have hp2 : p2 < W0.heap.size := cell_lt c2
  have hmx : Try.prog.follows .mixedOrders = true := by kernel_rfl
  have HY := hid hY
  have HJ1 := hid hJ1
  have HJg := hid hJg
  have HJ0 := hid h0
  clear hY hJ1 hJg h0
  refine callsIn_of_wp Try.func60 rfl trivial ?_ rfl
  simp only [Try.ntmps60, List.size_toArray, List.length_cons, List.length_nil, Nat.reduceAdd, Nat.reduceSub, Array.replicate_succ, Array.replicate_zero, List.push_toArray, List.append_toArray, List.nil_append, List.cons_append]
  gi_wp2
  gi_cut [4, 5] from 6 (fun s4 s5 wx => ∃ gl gr, s4 = .pointer (some ⟨gl, 0, none⟩) ∧ s5 = .pointer (some ⟨gr, 0, none⟩) ∧ Bord S gl gr A B na ca nb cb 0 0 wx ∧ J 0 0 wx)
  case first =>
    have HS := hS
    have b0 := fun o1 o2 : Obj => ((Below.refl W0.heap.size W0).alloc (Nat.le_refl _) o1).alloc (by simp) o2
    have HJ2 : Hid (∀ o1 o2 : Obj, J 0 0 ((W0.alloc o1).alloc o2).drew) := fun o1 o2 => HJg.out 0 0 W0 _ none HJ0.out (only_of_below ((b0 o1 o2).drew) none) (fun r e => by cases e)
    clear b0
    gi_region_o
    all_goals
      gi_wp2
      gi_meet
    · refine ⟨_, _, rfl, rfl, ?_, HJ2.out _ _⟩
      have := hS.out
      refine ⟨by omega, by omega, by omega, by omega, by omega, ?_, ?_, by simp; omega⟩
      · exact ((Blk.new W0 74 #[.slice A na ca, .int .i64 0]).alloc _).drew
      · have := (Blk.new (W0.alloc (.cells #[.slice A na ca, .int .i64 0] 74)) 74 #[.slice B nb cb, .int .i64 0]).drew
        rwa [World.size_alloc] at this
    · refine ⟨_, _, rfl, rfl, ?_, HJ2.out _ _⟩
      have := hS.out
      refine ⟨by omega, by omega, by omega, by omega, by omega, ?_, ?_, by simp; omega⟩
      · have := (Blk.new (W0.alloc (.cells #[.slice B nb cb, .int .i64 0] 74)) 74 #[.slice A na ca, .int .i64 0]).drew
        rwa [World.size_alloc] at this
      · exact ((Blk.new W0 74 #[.slice B nb cb, .int .i64 0]).alloc _).drew
  case rest =>
    obtain ⟨gl, gr, rfl, rfl, hB0, hJ0⟩ := hcut
    clear HJ0 c1 c2 hp1 hp2 hS
    gi_wp2
    gi_loopg [6] (2 * na + 2 * nb) (fun kx s6 wr => ∃ i j : Nat, i ≤ 2 * na ∧ j ≤ 2 * nb ∧ 2 * na + 2 * nb ≤ kx + (i + j) ∧ Bord S gl gr A B na ca nb cb i j wr ∧ J i j wr)
    case atStart => exact ⟨0, 0, by omega, by omega, by omega, hB0, hJ0⟩
    case round =>
      obtain ⟨i, j, hi, hj, hkx, hbo, hJ⟩ := hrel
      clear hB0 hJ0
      have HBO := hid hbo
      have HJ := hid hJ
      have hsz : Hid (S + 2 ≤ wr.heap.size) := hbo.2.2.2.2.2.2.2
      have HN : Hid (∀ W, Below wr.heap.size wr W → Bord S gl gr A B na ca nb cb i j W ∧ J i j W) := fun W hb => by
        obtain ⟨b1, b2, b3, b4, b5, b6, b7, b8⟩ := HBO.out
        exact ⟨⟨b1, b2, b3, b4, b5, b6.below hb b6.lt, b7.below hb b7.lt, Nat.le_trans b8 hb.size⟩, HJg.out i j wr W none HJ.out (only_of_below hb none) (fun r e => by cases e)⟩
      have HCE : Hid (∀ W, Below wr.heap.size wr W → W.cell? ⟨gl, 0, none⟩ = some (.slice A na ca) ∧ W.cell? ⟨gl, 1, none⟩ = some (.int .i64 i) ∧ W.cell? ⟨gr, 0, none⟩ = some (.slice B nb cb) ∧ W.cell? ⟨gr, 1, none⟩ = some (.int .i64 j)) := fun W hb => by
        obtain ⟨⟨_, _, _, _, _, b6, b7, _⟩, _⟩ := HN.out W hb
        exact ⟨(b6.cell 0).trans rfl, (b6.cell 1).trans rfl, (b7.cell 0).trans rfl, (b7.cell 1).trans rfl⟩
      have HDa : Hid (∀ W, Below wr.heap.size wr W → Calls Try.prog 61 #[.agg #[.slice A na ca, .int .i64 i]] W fun e w' => e = .returned (.int .i64 (dayV la i)) ∧ Below wr.heap.size wr w') := fun W hb =>
        (day_any la A na ca i W hna hma hi (HJ1.out i j W (HN.out W hb).2).1).mono fun e w' ⟨he, h1⟩ => ⟨he, hb.trans (h1.mono hb.size)⟩
      have HDb : Hid (∀ W, Below wr.heap.size wr W → Calls Try.prog 61 #[.agg #[.slice B nb cb, .int .i64 j]] W fun e w' => e = .returned (.int .i64 (dayV lb j)) ∧ Below wr.heap.size wr w') := fun W hb =>
        (day_any lb B nb cb j W hnb hmb hj (HJ1.out i j W (HN.out W hb).2).2).mono fun e w' ⟨he, h1⟩ => ⟨he, hb.trans (h1.mono hb.size)⟩
      obtain ⟨x, hx⟩ : ∃ x, dayV la i = x := ⟨_, rfl⟩
      obtain ⟨y, hy⟩ : ∃ y, dayV lb j = y := ⟨_, rfl⟩
      have hnd : nxtD la lb i j = min x y := by unfold nxtD; rw [hx, hy]
      have HND := hid hnd
      have HX := hid hx
      have HYY := hid hy
      rw [hx] at HDa
      rw [hy] at HDb
      clear hbo hJ hnd hx hy
      gi_upto_region 1 with fail
      gi_cut [6] from 11 (fun s6 wx => s6 = .int .i64 (nxtD la lb i j) ∧ Bord S gl gr A B na ca nb cb i j wx ∧ J i j wx)
      case first =>
        obtain ⟨k0, k1, k2, k3⟩ := HCE.out wr (Below.refl _ _)
        gi_region_with_o (first
          | (refine ⟨trivial, ?_⟩; gi_at_call 61; ((with_reducible refine (callsIn_wide.2 (HDa.out _ (by repeat (first | exact Below.refl _ _ | assumption | refine Below.alloc ?_ (by first | (simp; done) | (simp; omega) | omega) _ | refine Below.setCell ?_ (by first | (simp; done) | (simp; omega) | omega) _ | refine Below.drew ?_)))).mono ?_); rintro e w1 ⟨rfl, h1⟩; obtain ⟨k0, k1, k2, k3⟩ := HCE.out _ h1))
          | (refine ⟨trivial, ?_⟩; gi_at_call 61; ((with_reducible refine (callsIn_wide.2 (HDb.out _ (by repeat (first | exact Below.refl _ _ | assumption | refine Below.alloc ?_ (by first | (simp; done) | (simp; omega) | omega) _ | refine Below.setCell ?_ (by first | (simp; done) | (simp; omega) | omega) _ | refine Below.drew ?_)))).mono ?_); rintro e w1 ⟨rfl, h1⟩; obtain ⟨k0, k1, k2, k3⟩ := HCE.out _ h1)))
        all_goals
          gi_wp2
          gi_meet
          exact ⟨by rw [HND.out], (HN.out _ h1).1, (HN.out _ h1).2⟩
      case rest =>
        clear HBO HJ hsz HN HCE HDa HDb
        obtain ⟨rfl, hbo, hJ⟩ := hcut
        by_cases hend : nxtD la lb i j = 65537
        · have he := (nxt_end hsa.out hsb.out (by rw [hna.out]; exact hi) (by rw [hnb.out]; exact hj)).1 hend
          have HE : Hid (J (2 * na) (2 * nb) wc) := by
            rw [hna.out, hnb.out] at he
            rw [he.1, he.2] at hJ
            exact hJ
          have hte : (nxtD la lb i j == 65537) = true := by rw [beq_iff_eq]; exact hend
          clear hend he hbo hJ
          gi_wp2
          refine bodyPost_ret (results_none rfl _ _ _) rfl ?_
          exact ⟨⟨_, rfl⟩, .inl HE.out⟩
        · have hte : (nxtD la lb i j == 65537) = false := by rw [beq_eq_false_iff_ne]; exact hend
          have HNE := hid hend
          obtain ⟨g1, g2, g3, g4, g5, bl, br, hsz⟩ := hbo
          have HBL := hid bl
          have HBR := hid br
          have HJ := hid hJ
          have HSZ := hid hsz
          have Hg5 := hid g5
          have HI : Hid ((if dayV la i = nxtD la lb i j then i + 1 else i) = nxtI la lb i j) := rfl
          have HJJ : Hid ((if dayV lb j = nxtD la lb i j then j + 1 else j) = nxtJ la lb i j) := rfl
          clear bl br hJ hsz hend g5
          gi_wp2_with fail
          refine ⟨trivial, ?_⟩
          refine (callsIn_wide.2 (pass_any la A na ca i gl (nxtD la lb i j) wc hna hma hi (HJ1.out i j wc HJ.out).1 HBL.out)).mono ?_
          rintro e w1 ⟨rfl, bl1, gr1⟩
          rw [HI.out] at bl1
          have HJa : Hid (J i j w1) := HJg.out i j wc w1 (some gl) HJ.out gr1 (fun r e => by cases e; exact ⟨g1, g2⟩)
          have HBR1 := hid (HBR.out.grown gr1 (fun e => Hg5.out (Option.some.inj e).symm))
          have HBL1 := hid bl1
          have HSZ1 := hid (Nat.le_trans HSZ.out gr1.size)
          clear bl1 gr1 HJ HBL HBR HSZ
          gi_wp2_with fail
          refine ⟨trivial, ?_⟩
          refine (callsIn_wide.2 (pass_any lb B nb cb j gr (nxtD la lb i j) w1 hnb hmb hj (HJ1.out i j w1 HJa.out).2 HBR1.out)).mono ?_
          rintro e w2 ⟨rfl, br2, gr2⟩
          rw [HJJ.out] at br2
          have HJb : Hid (J i j w2) := HJg.out i j w1 w2 (some gr) HJa.out gr2 (fun r e => by cases e; exact ⟨g3, g4⟩)
          have HBL2 := hid (HBL1.out.grown gr2 (fun e => Hg5.out (Option.some.inj e)))
          have HBR2 := hid br2
          have HSZ2 := hid (Nat.le_trans HSZ1.out gr2.size)
          clear br2 gr2 HJa HBL1 HBR1 HSZ1
          have HIB : Hid (nxtI la lb i j ≤ 2 * na ∧ nxtJ la lb i j ≤ 2 * nb ∧ i + j < nxtI la lb i j + nxtJ la lb i j) :=
            ⟨by have := nxtI_le (a := la) (b := lb) (i := i) (j := j) (by rw [hna.out]; exact hi) HNE.out; rwa [hna.out] at this, by have := nxtJ_le (a := la) (b := lb) (i := i) (j := j) (by rw [hnb.out]; exact hj) HNE.out; rwa [hnb.out] at this, nxt_more HNE.out⟩
          have HN2 : Hid (∀ W, Below w2.heap.size w2 W → Blk W gl 74 #[.slice A na ca, .int .i64 (nxtI la lb i j)] ∧ Blk W gr 74 #[.slice B nb cb, .int .i64 (nxtJ la lb i j)] ∧ S + 2 ≤ W.heap.size ∧ J i j W) := fun W hb =>
            ⟨HBL2.out.below hb HBL2.out.lt, HBR2.out.below hb HBR2.out.lt, Nat.le_trans HSZ2.out hb.size, HJg.out i j w2 W none HJb.out (only_of_below hb none) (fun r e => by cases e)⟩
          have HYY2 : Hid (∀ W, Below w2.heap.size w2 W → YieldAt Fence.wide (nf - 1) Try.prog l #[.int .i64 (nxtD la lb i j), .agg #[.bool (odd (nxtI la lb i j)), .bool (odd (nxtJ la lb i j))]] W fun e W' =>
              ∃ bo : Bool, e = .returned (.bool bo) ∧ Hid ((bo = true ∧ J (nxtI la lb i j) (nxtJ la lb i j) W' ∧ Bord S gl gr A B na ca nb cb (nxtI la lb i j) (nxtJ la lb i j) W') ∨ (bo = false ∧ Jx W'))) := fun W hb => by
            obtain ⟨b1, b2, b3, b4⟩ := HN2.out W hb
            refine (HY.out i j W hi hj HNE.out b3 b4).mono ?_
            rintro e W' (⟨h1, h2, h3, h4⟩ | h1)
            · exact ⟨true, h1, .inl ⟨rfl, h2, g1, g2, g3, g4, Hg5.out, (h4 gl g1 g2).trans b1, (h4 gr g3 g4).trans b2, h3⟩⟩
            · exact ⟨false, h1.1, .inr ⟨rfl, h1.2⟩⟩
          generalize nxtI la lb i j = i' at *
          generalize nxtJ la lb i j = j' at *
          generalize nxtD la lb i j = D at *
          have HCE : Hid (∀ W, Below w2.heap.size w2 W → W.cell? ⟨gl, 0, none⟩ = some (.slice A na ca) ∧ W.cell? ⟨gl, 1, none⟩ = some (.int .i64 i') ∧ W.cell? ⟨gr, 0, none⟩ = some (.slice B nb cb) ∧ W.cell? ⟨gr, 1, none⟩ = some (.int .i64 j')) := fun W hb => by
            obtain ⟨b6, b7, _, _⟩ := HN2.out W hb
            exact ⟨(b6.cell 0).trans rfl, (b6.cell 1).trans rfl, (b7.cell 0).trans rfl, (b7.cell 1).trans rfl⟩
          have HIa : Hid (∀ W, Below w2.heap.size w2 W → Calls Try.prog 63 #[.agg #[.slice A na ca, .int .i64 i']] W fun e w' => e = .returned (.bool (odd i')) ∧ Below w2.heap.size w2 w') := fun W hb =>
            (inside_any A na ca i' W (by have := HIB.out; omega)).mono fun e w' ⟨he, h1⟩ => ⟨he, hb.trans (h1.mono hb.size)⟩
          have HIb : Hid (∀ W, Below w2.heap.size w2 W → Calls Try.prog 63 #[.agg #[.slice B nb cb, .int .i64 j']] W fun e w' => e = .returned (.bool (odd j')) ∧ Below w2.heap.size w2 w') := fun W hb =>
            (inside_any B nb cb j' W (by have := HIB.out; omega)).mono fun e w' ⟨he, h1⟩ => ⟨he, hb.trans (h1.mono hb.size)⟩
          generalize odd i' = oi at *
          generalize odd j' = oj at *
          gi_upto_region 5 with fail
          obtain ⟨k0, k1, k2, k3⟩ := HCE.out w2 (Below.refl _ _)
          clear HJb HBL2 HBR2 HSZ2 HND HX HYY HNE Hg5 HI HJJ
          gi_region_with_o (first
            | (refine ⟨trivial, ?_⟩; gi_at_call 63; ((with_reducible refine (callsIn_wide.2 (HIa.out _ (by repeat (first | exact Below.refl _ _ | assumption | refine Below.alloc ?_ (by first | (simp; done) | (simp; omega) | omega) _ | refine Below.setCell ?_ (by first | (simp; done) | (simp; omega) | omega) _ | refine Below.drew ?_)))).mono ?_); rintro e w3 ⟨rfl, h3⟩; obtain ⟨k0, k1, k2, k3⟩ := HCE.out _ h3; obtain ⟨fn, tmps, assign, body, hy, hR⟩ := HYY2.out _ h3))
            | (refine ⟨trivial, ?_⟩; gi_at_call 63; ((with_reducible refine (callsIn_wide.2 (HIb.out _ (by repeat (first | exact Below.refl _ _ | assumption | refine Below.alloc ?_ (by first | (simp; done) | (simp; omega) | omega) _ | refine Below.setCell ?_ (by first | (simp; done) | (simp; omega) | omega) _ | refine Below.drew ?_)))).mono ?_); rintro e w3 ⟨rfl, h3⟩; obtain ⟨k0, k1, k2, k3⟩ := HCE.out _ h3; obtain ⟨fn, tmps, assign, body, hy, hR⟩ := HYY2.out _ h3))
            | (refine hR.mono ?_; rintro e W3 ⟨bo, rfl, HP⟩))
          all_goals
            rcases HP.out with ⟨rfl, hJ3, hB3⟩ | ⟨rfl, hJx3⟩
            · gi_wp2
              go_roundg (2 * na + 2 * nb - (i' + j'))
              case measure => have := HIB.out; omega
              case rel => exact ⟨i', j', HIB.out.1, HIB.out.2.1, by omega, hB3, hJ3⟩
            · gi_wp2
              refine bodyPost_ret (results_none rfl _ _ _) rfl ?_
              exact ⟨⟨_, rfl⟩, .inr hJx3⟩
end Go.Proofs.Ytpafnakepgjmnaa
