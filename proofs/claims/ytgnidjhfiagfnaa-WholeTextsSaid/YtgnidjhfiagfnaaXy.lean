/- WholeTexts' function returns true, another way. Conditions: the number lies in memory. -/
import Derived.Test.YtgnidjhfiagfnaaXx
import Derived.Deep.RegionHeld3
import Derived.Deep.CutRange
namespace Go.Proofs.Ytgnidjhfiagfnaa
open Go.RowKit

set_option maxRecDepth 100000 in
set_option maxHeartbeats 2000000 in
theorem texts_zero {la : List Nat} {A : Option Addr} {ca : Nat} {w : World} (sa : Sl w (.slice A 0 ca) la) (hna : Hid (la.length = 0)) (txt : ByteArray) (d0 : Int) (hu : uB 100 false la = true) (htl : txt.size ≤ 400) (hd0 : 0 ≤ d0) (hd1 : d0 ≤ 255) (hla : la = []) :
  Calls Try.prog 9 #[.agg #[.bool false, .slice A 0 ca], .string txt, .int .u8 d0] w fun e w' => e = .returned (.bool true) ∧ Below w.heap.size w w' := by
  have b0 : Blk (w.alloc (.cells #[.bool false, .slice A 0 ca] 26)) w.heap.size 26 #[.bool false, .slice A 0 ca] := by
    have := (Blk.new w 26 #[.bool false, .slice A 0 ca])
    exact this
  have bw : Below w.heap.size w (w.alloc (.cells #[.bool false, .slice A 0 ca] 26)) := (by repeat (first | exact Below.refl _ _ | assumption | refine Below.alloc ?_ (by first | (simp; done) | (simp; omega) | omega) _ | refine Below.setCell ?_ (by first | (simp; done) | (simp; omega) | omega) _ | refine Below.drew ?_))
  replace sa := sa.below bw
  have hva := (uB_lz (wh_of_sl (x := false) sa hna) hu).1
  have zp := (uB_lz (wh_of_sl (x := false) sa hna) hu).2.1
  have lp := (uB_lz (wh_of_sl (x := false) sa hna) hu).2.2
  have hl100 : la.length ≤ 100 := by unfold uB at hu; simp at hu; exact hu.1
  obtain ⟨S, hS⟩ : ∃ S, strOfNums (asInts (form false (val la))) = S := ⟨_, rfl⟩
  have hfa := text_facts sa.1 hva hl100 hS
  have HTB : Hid (textB S = true) := hfa.1
  have HTZ : Hid (textZ S = zv false la) := hfa.2.1
  have hSs : S.size ≤ 502 := hfa.2.2.1
  have HBY : Hid (byt S = form false (val la)) := hfa.2.2.2
  have h45 := form_first hfa.2.2.2
  have hS0 := h45.1
  have hS45 : ((S[0].toNat : Int) == 45) = false := h45.2 hS0
  have hSz : ((S.size : Int) == 0) = false := by rw [beq_eq_false_iff_ne]; omega
  clear hfa h45
  have HLA : Hid (Limbs la) := sa.1
  have HVA : Hid (validB false la = true) := hva
  have HHL : Hid (la = []) := hla
  have HP : Hid (Lz 1024 (zv false la)) := lp.mono (by omega)
  have HLP : Hid (Lz 100 (zv false la)) := lp
  have hn46 : 0 ≤ 100 := by have := hna.out; omega
  clear hla lp
  go_enter Try.func9, Try.ntmps9
  go_wp2_with fail
  refine (awake_any _).mono ?_
  rintro e u1 ⟨rfl, h1⟩
  have ch1 := bw.trans (h1.mono bw.size)
  replace b0 := b0.below h1 b0.lt
  replace zp := zp.below h1
  replace sa := sa.below h1
  have c0b0 := (b0.cell 0).trans (b := some (Value.bool false)) rfl
  have c1b0 := (b0.cell 1).trans (b := some (Value.slice A 0 ca)) rfl
  have al : Below u1.heap.size u1 (u1.alloc (.cells #[.bool false, .slice A 0 ca] 26)) := (Below.refl _ _).alloc (Nat.le_refl _) _
  have bk : Blk (u1.alloc (.cells #[.bool false, .slice A 0 ca] 26)) u1.heap.size 26 #[.bool false, .slice A 0 ca] := Blk.new _ _ _
  go_wp2_with fail
  clear c0b0 c1b0
  have ch2 := ch1.trans (al.mono ch1.size)
  replace b0 := b0.below al b0.lt
  replace zp := zp.below al
  replace sa := sa.below al
  refine (usable1 (most := 100) (by omega) sa hna bk).mono ?_
  rintro e u2 ⟨rfl, h2⟩
  rw [hu]
  clear bk al
  have ch3 := ch2.trans (h2.mono ch2.size)
  replace b0 := b0.below h2 b0.lt
  replace zp := zp.below h2
  replace sa := sa.below h2
  have c0b0 := (b0.cell 0).trans (b := some (Value.bool false)) rfl
  have c1b0 := (b0.cell 1).trans (b := some (Value.slice A 0 ca)) rfl
  go_wp2_with fail
  refine (text_wh (wh_of_sl sa hna) HVA.out).mono ?_
  rintro e u3 ⟨rfl, h3⟩
  clear c0b0 c1b0
  have ch4 := ch3.trans (h3.mono ch3.size)
  replace b0 := b0.below h3 b0.lt
  replace zp := zp.below h3
  replace sa := sa.below h3
  rw [hS]
  clear sa hu hS hva hl100
  go_wp2_with fail
  refine (parse_yes (s := S) (by omega) HTB.out (by rw [HTZ.out]; exact HP.out)).mono ?_
  rintro e u4 ⟨vb, rfl, zb, h4⟩
  have ch5 := ch4.trans (h4.mono ch4.size)
  replace b0 := b0.below h4 b0.lt
  replace zp := zp.below h4
  rw [HTZ.out] at zb
  obtain ⟨nb, B, cb, Hnb, rfl, hsb⟩ := whz_len zb
  clear hsb
  have hsgn : decide (zv false la < 0) = false := zv_sign HLA.out HVA.out
  rw [hsgn] at zb
  rw [hsgn]
  have a5v : Below u4.heap.size u4 (u4.alloc (.cells #[.bool false, .slice B nb cb] 26)) := (Below.refl _ _).alloc (Nat.le_refl _) _
  have b1 : Blk (u4.alloc (.cells #[.bool false, .slice B nb cb] 26)) u4.heap.size 26 #[.bool false, .slice B nb cb] := Blk.new _ _ _
  have ch6 := ch5.trans (a5v.mono ch5.size)
  replace b0 := b0.below a5v b0.lt
  replace zp := zp.below a5v
  replace zb := zb.below a5v
  clear hsgn
  go_wp2
  have b0_6_0 := b0.drew
  have b1_6_0 := b1.drew
  have zp_6_0 := whz_drew zp
  have zb_6_0 := whz_drew zb
  have ch_6_0 := ch6.drew
  have kk_6_0 := cellsG4 b0_6_0 b1_6_0
  clear ch6 b0 b1 zp zb
  go_region_held3 (fun w' => w'.cell? ⟨w.heap.size, 0, none⟩ = some (.bool false) ∧ w'.cell? ⟨w.heap.size, 1, none⟩ = some (.slice A 0 ca) ∧ w'.cell? ⟨u4.heap.size, 0, none⟩ = some (.bool false) ∧ w'.cell? ⟨u4.heap.size, 1, none⟩ = some (.slice B nb cb))
    (first | (with_reducible exact kk_6_1) | (with_reducible exact kk_6_0))
    (first | (go_at_call 30; refine (equal_l zp_6_0 zb_6_0 HP.out HP.out rfl).mono ?_; rintro e w_6_1 ⟨rfl, hb_6_1⟩; have b0_6_1 := b0_6_0.below hb_6_1 b0_6_0.lt; have b1_6_1 := b1_6_0.below hb_6_1 b1_6_0.lt; have zp_6_1 := zp_6_0.below hb_6_1; have zb_6_1 := zb_6_0.below hb_6_1; have ch_6_1 := ch_6_0.trans (hb_6_1.mono ch_6_0.size); have kk_6_1 := cellsG4 b0_6_1 b1_6_1; clear b0_6_0 b1_6_0 zp_6_0 zb_6_0 ch_6_0 kk_6_0 hb_6_1))
  have b0 := b0_6_1
  have b1 := b1_6_1
  have zp := zp_6_1
  have zb := zb_6_1
  have ch7 := ch_6_1
  clear b0_6_1 b1_6_1 zp_6_1 zb_6_1 kk_6_1 ch_6_1
  clear zb
  clear b1
  obtain ⟨dn, hdn⟩ : ∃ dn : Nat, d0 % 10 = (dn : Int) := ⟨(d0 % 10).toNat, by omega⟩
  have hdn10 : dn < 10 := by omega
  have HDN : Hid (d0 % 10 = (dn : Int)) := hdn
  clear hdn
  have c0b0 := (b0.cell 0).trans (b := some (Value.bool false)) rfl
  have c1b0 := (b0.cell 1).trans (b := some (Value.slice A 0 ca)) rfl
  go_upto_region 10 with fail
  rw [HDN.out]
  cases htb2 : textB txt with
  | true =>
    have HQ : Hid (textB txt = true) := htb2
    clear htb2
    have hLq := (text_lz HQ.out htl (m := 100) (by omega)).mono (k := 1024) (by omega)
    have HLq : Hid (Lz 1024 (textZ txt)) := hLq
    clear hLq
    obtain ⟨Tq, hTq⟩ : ∃ Tq, strOfNums (asInts (form (decide (textZ txt < 0)) (val (digs (textZ txt).natAbs)))) = Tq := ⟨_, rfl⟩
    have HTq : Hid (Tq = txt) := text_same HQ.out (by rw [← hTq, val_digs])
    have c0b0 := (b0.cell 0).trans (b := some (Value.bool false)) rfl
    have c1b0 := (b0.cell 1).trans (b := some (Value.slice A 0 ca)) rfl
    go_wp2_with fail
    refine (parse_yes (s := txt) (by omega) HQ.out HLq.out).mono ?_
    rintro e u7 ⟨vq, rfl, zq, h7⟩
    have ch8 := ch7.trans (h7.mono ch7.size)
    replace b0 := b0.below h7 b0.lt
    replace zp := zp.below h7
    clear c0b0 c1b0
    obtain ⟨nq, Q, cq, Hnq, rfl, hsq⟩ := whz_len zq
    clear hsq
    obtain ⟨bq, hbq⟩ : ∃ bq, decide (textZ txt < 0) = bq := ⟨_, rfl⟩
    have HBQ : Hid (decide (textZ txt < 0) = bq) := hbq
    rw [hbq] at zq ⊢
    clear hbq
    have a8v : Below u7.heap.size u7 (u7.alloc (.cells #[.bool bq, .slice Q nq cq] 26)) := (Below.refl _ _).alloc (Nat.le_refl _) _
    have b4 : Blk (u7.alloc (.cells #[.bool bq, .slice Q nq cq] 26)) u7.heap.size 26 #[.bool bq, .slice Q nq cq] := Blk.new _ _ _
    have ch9 := ch8.trans (a8v.mono ch8.size)
    replace b0 := b0.below a8v b0.lt
    replace zp := zp.below a8v
    replace zq := zq.below a8v
    have c0b0 := (b0.cell 0).trans (b := some (Value.bool false)) rfl
    have c1b0 := (b0.cell 1).trans (b := some (Value.slice A 0 ca)) rfl
    have c0b4 := (b4.cell 0).trans (b := some (Value.bool bq)) rfl
    have c1b4 := (b4.cell 1).trans (b := some (Value.slice Q nq cq)) rfl
    go_wp2_with fail
    refine (text_wh (show Wh _ _ _ _ from (by rw [← HBQ.out] at zq ⊢; exact zq)) (HLq.out.ok (Nat.le_refl _))).mono ?_
    rintro e u9 ⟨rfl, h9⟩
    clear c0b0 c1b0 c0b4 c1b4
    have ch10 := ch9.trans (h9.mono ch9.size)
    replace b0 := b0.below h9 b0.lt
    replace b4 := b4.below h9 b4.lt
    replace zp := zp.below h9
    replace zq := zq.below h9
    rw [hTq, HTq.out]
    go_wp2
    go_ret
    exact ⟨rfl, ch10⟩
  | false =>
    have HQ : Hid (textB txt = false) := htb2
    clear htb2
    have c0b0 := (b0.cell 0).trans (b := some (Value.bool false)) rfl
    have c1b0 := (b0.cell 1).trans (b := some (Value.slice A 0 ca)) rfl
    go_wp2_with fail
    refine (parse_no (s := txt) (by omega) HQ.out).mono ?_
    rintro e u10 ⟨vq, rfl, zq, h10⟩
    have ch8 := ch7.trans (h10.mono ch7.size)
    replace b0 := b0.below h10 b0.lt
    replace zp := zp.below h10
    clear c0b0 c1b0
    obtain ⟨nq, Q, cq, Hnq, rfl⟩ := zero_cells zq
    obtain rfl : nq = 0 := Hnq.out
    clear zq
    have a11v : Below u10.heap.size u10 (u10.alloc (.cells #[.bool false, .slice Q 0 cq] 26)) := (Below.refl _ _).alloc (Nat.le_refl _) _
    have b4 : Blk (u10.alloc (.cells #[.bool false, .slice Q 0 cq] 26)) u10.heap.size 26 #[.bool false, .slice Q 0 cq] := Blk.new _ _ _
    have ch9 := ch8.trans (a11v.mono ch8.size)
    replace b0 := b0.below a11v b0.lt
    replace zp := zp.below a11v
    have c0b0 := (b0.cell 0).trans (b := some (Value.bool false)) rfl
    have c1b0 := (b0.cell 1).trans (b := some (Value.slice A 0 ca)) rfl
    have c0b4 := (b4.cell 0).trans (b := some (Value.bool false)) rfl
    have c1b4 := (b4.cell 1).trans (b := some (Value.slice Q 0 cq)) rfl
    go_wp2
    go_ret
    exact ⟨rfl, ch9⟩

end Go.Proofs.Ytgnidjhfiagfnaa
