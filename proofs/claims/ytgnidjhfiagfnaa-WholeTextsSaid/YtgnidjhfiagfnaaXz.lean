/- WholeTexts' function returns true, another way. Conditions: the number lies in memory. -/
import Derived.Test.YtgnidjhfiagfnaaXx
import Derived.Test.YtgnidjhfiagfnaaXr
import Derived.Deep.RegionHeld3
import Derived.Deep.CutRange
namespace Go.Proofs.Ytgnidjhfiagfnaa
open Go.RowKit

set_option maxRecDepth 100000 in
set_option maxHeartbeats 2000000 in
theorem texts_neg {la : List Nat} {A : Option Addr} {na ca : Nat} {w : World} (sa : Sl w (.slice A na ca) la) (hna : Hid (la.length = na)) (txt : ByteArray) (d0 : Int) (hu : uB 100 true la = true) (htl : txt.size ≤ 400) (hd0 : 0 ≤ d0) (hd1 : d0 ≤ 255) (hla : la ≠ []) :
  Calls Try.prog 9 #[.agg #[.bool true, .slice A na ca], .string txt, .int .u8 d0] w fun e w' => e = .returned (.bool true) ∧ Below w.heap.size w w' := by
  have b0 : Blk (w.alloc (.cells #[.bool true, .slice A na ca] 26)) w.heap.size 26 #[.bool true, .slice A na ca] := by
    have := (Blk.new w 26 #[.bool true, .slice A na ca])
    exact this
  have bw : Below w.heap.size w (w.alloc (.cells #[.bool true, .slice A na ca] 26)) := (by repeat (first | exact Below.refl _ _ | assumption | refine Below.alloc ?_ (by first | (simp; done) | (simp; omega) | omega) _ | refine Below.setCell ?_ (by first | (simp; done) | (simp; omega) | omega) _ | refine Below.drew ?_))
  replace sa := sa.below bw
  have hva := (uB_lz (wh_of_sl (x := true) sa hna) hu).1
  have zp := (uB_lz (wh_of_sl (x := true) sa hna) hu).2.1
  have lp := (uB_lz (wh_of_sl (x := true) sa hna) hu).2.2
  have hl100 : la.length ≤ 100 := by unfold uB at hu; simp at hu; exact hu.1
  obtain ⟨S, hS⟩ : ∃ S, strOfNums (asInts (form true (val la))) = S := ⟨_, rfl⟩
  have hfa := text_facts sa.1 hva hl100 hS
  have HTB : Hid (textB S = true) := hfa.1
  have HTZ : Hid (textZ S = zv true la) := hfa.2.1
  have hSs : S.size ≤ 502 := hfa.2.2.1
  have HBY : Hid (byt S = form true (val la)) := hfa.2.2.2
  have h45 := form_first hfa.2.2.2
  have hS0 := h45.1
  have hS45 : ((S[0].toNat : Int) == 45) = true := h45.2 hS0
  have hSz : ((S.size : Int) == 0) = false := by rw [beq_eq_false_iff_ne]; omega
  clear hfa h45
  have HLA : Hid (Limbs la) := sa.1
  have HVA : Hid (validB true la = true) := hva
  have HHL : Hid (la ≠ []) := hla
  have HP : Hid (Lz 1024 (zv true la)) := lp.mono (by omega)
  have HLP : Hid (Lz 100 (zv true la)) := lp
  have hna0 : 0 < na := by
    have := hna.out
    have h2 : la.length ≠ 0 := fun e => hla (List.eq_nil_of_length_eq_zero e)
    omega
  have hn46 : na ≤ 100 := by have := hna.out; omega
  clear hla lp
  go_enter Try.func9, Try.ntmps9
  go_wp2_with fail
  refine (awake_any _).mono ?_
  rintro e u1 ⟨rfl, h1⟩
  have ch1 := bw.trans (h1.mono bw.size)
  replace b0 := b0.below h1 b0.lt
  replace zp := zp.below h1
  replace sa := sa.below h1
  have c0b0 := (b0.cell 0).trans (b := some (Value.bool true)) rfl
  have c1b0 := (b0.cell 1).trans (b := some (Value.slice A na ca)) rfl
  have al : Below u1.heap.size u1 (u1.alloc (.cells #[.bool true, .slice A na ca] 26)) := (Below.refl _ _).alloc (Nat.le_refl _) _
  have bk : Blk (u1.alloc (.cells #[.bool true, .slice A na ca] 26)) u1.heap.size 26 #[.bool true, .slice A na ca] := Blk.new _ _ _
  go_wp2_with fail
  clear c0b0 c1b0
  have ch2 := ch1.trans (al.mono ch1.size)
  replace b0 := b0.below al b0.lt
  replace zp := zp.below al
  replace sa := sa.below al
  refine (usable1 (most := 100) (by omega) sa hna bk).mono ?_
  rintro e u2 ⟨rfl, h2⟩
  rw [hu]
  clear bk al
  have ch3 := ch2.trans (h2.mono ch2.size)
  replace b0 := b0.below h2 b0.lt
  replace zp := zp.below h2
  replace sa := sa.below h2
  have c0b0 := (b0.cell 0).trans (b := some (Value.bool true)) rfl
  have c1b0 := (b0.cell 1).trans (b := some (Value.slice A na ca)) rfl
  go_wp2_with fail
  refine (text_wh (wh_of_sl sa hna) HVA.out).mono ?_
  rintro e u3 ⟨rfl, h3⟩
  clear c0b0 c1b0
  have ch4 := ch3.trans (h3.mono ch3.size)
  replace b0 := b0.below h3 b0.lt
  replace zp := zp.below h3
  replace sa := sa.below h3
  rw [hS]
  clear sa hu hS hva hl100
  go_wp2_with fail
  refine (parse_yes (s := S) (by omega) HTB.out (by rw [HTZ.out]; exact HP.out)).mono ?_
  rintro e u4 ⟨vb, rfl, zb, h4⟩
  have ch5 := ch4.trans (h4.mono ch4.size)
  replace b0 := b0.below h4 b0.lt
  replace zp := zp.below h4
  rw [HTZ.out] at zb
  obtain ⟨nb, B, cb, Hnb, rfl, hsb⟩ := whz_len zb
  clear hsb
  have hsgn : decide (zv true la < 0) = true := zv_sign HLA.out HVA.out
  rw [hsgn] at zb
  rw [hsgn]
  have a5v : Below u4.heap.size u4 (u4.alloc (.cells #[.bool true, .slice B nb cb] 26)) := (Below.refl _ _).alloc (Nat.le_refl _) _
  have b1 : Blk (u4.alloc (.cells #[.bool true, .slice B nb cb] 26)) u4.heap.size 26 #[.bool true, .slice B nb cb] := Blk.new _ _ _
  have ch6 := ch5.trans (a5v.mono ch5.size)
  replace b0 := b0.below a5v b0.lt
  replace zp := zp.below a5v
  replace zb := zb.below a5v
  clear hsgn
  go_wp2
  have b0_6_0 := b0.drew
  have b1_6_0 := b1.drew
  have zp_6_0 := whz_drew zp
  have zb_6_0 := whz_drew zb
  have ch_6_0 := ch6.drew
  have kk_6_0 := cellsG4 b0_6_0 b1_6_0
  clear ch6 b0 b1 zp zb
  go_region_held3 (fun w' => w'.cell? ⟨w.heap.size, 0, none⟩ = some (.bool true) ∧ w'.cell? ⟨w.heap.size, 1, none⟩ = some (.slice A na ca) ∧ w'.cell? ⟨u4.heap.size, 0, none⟩ = some (.bool true) ∧ w'.cell? ⟨u4.heap.size, 1, none⟩ = some (.slice B nb cb))
    (first | (with_reducible exact kk_6_1) | (with_reducible exact kk_6_0))
    (first | (go_at_call 30; refine (equal_l zp_6_0 zb_6_0 HP.out HP.out rfl).mono ?_; rintro e w_6_1 ⟨rfl, hb_6_1⟩; have b0_6_1 := b0_6_0.below hb_6_1 b0_6_0.lt; have b1_6_1 := b1_6_0.below hb_6_1 b1_6_0.lt; have zp_6_1 := zp_6_0.below hb_6_1; have zb_6_1 := zb_6_0.below hb_6_1; have ch_6_1 := ch_6_0.trans (hb_6_1.mono ch_6_0.size); have kk_6_1 := cellsG4 b0_6_1 b1_6_1; clear b0_6_0 b1_6_0 zp_6_0 zb_6_0 ch_6_0 kk_6_0 hb_6_1))
  have b0 := b0_6_1
  have b1 := b1_6_1
  have zp := zp_6_1
  have zb := zb_6_1
  have ch7 := ch_6_1
  clear b0_6_1 b1_6_1 zp_6_1 zb_6_1 kk_6_1 ch_6_1
  clear zb
  clear b1
  obtain ⟨dn, hdn⟩ : ∃ dn : Nat, d0 % 10 = (dn : Int) := ⟨(d0 % 10).toNat, by omega⟩
  have hdn10 : dn < 10 := by omega
  have HDN : Hid (d0 % 10 = (dn : Int)) := hdn
  clear hdn
  have c0b0 := (b0.cell 0).trans (b := some (Value.bool true)) rfl
  have c1b0 := (b0.cell 1).trans (b := some (Value.slice A na ca)) rfl
  go_upto_region 10 with fail
  rw [HDN.out]
  have hcv := conv1 w_6_1 (48 + (dn : Int))
  have hcs : ¬ 9223372036854775807 < S.size + (strOfNums [48 + (dn : Int)]).size := by rw [strOfNums_size]; simp; omega
  obtain ⟨T, hT⟩ : ∃ T, S ++ strOfNums [48 + (dn : Int)] = T := ⟨_, rfl⟩
  have hbT : byt T = byt S ++ [48 + dn] := by rw [← hT]; exact byt_one S dn hdn10
  have hsT : T.size ≤ 503 := by rw [← hT, one_size]; omega
  have htm := text_more HLA.out HVA.out HHL.out hdn10 HBY.out hbT
  have HTT : Hid (textB T = true) := htm.1
  obtain ⟨Z2, hZ2⟩ : ∃ Z2, textZ T = Z2 := ⟨_, rfl⟩
  have HZ2 : Hid (Z2 = zv true la * 10 + (-(dn : Int))) := by rw [← hZ2]; exact htm.2
  have hL2 := (text_lz htm.1 hsT (m := 126) (by omega)).mono (k := 1024) (by omega)
  rw [hZ2] at hL2
  have HL2 : Hid (Lz 1024 Z2) := hL2
  have HPT : Hid (∀ W, Calls Try.prog 23 #[.string T] W fun e w' => ∃ v, e = .returned (.tuple #[v, .int .i64 0]) ∧ WhZ w' v Z2 ∧ Below W.heap.size W w') := fun W => by
    have := parse_yes (s := T) (w := W) (by omega) HTT.out (by rw [hZ2]; exact HL2.out)
    rw [hZ2] at this
    exact this
  clear hbT htm hZ2 hL2 hsT
  go_wp2_with fail
  clear c0b0 c1b0
  have au : Below w_6_1.heap.size w_6_1 (w_6_1.alloc (.cells #[.int .u8 (48 + (dn : Int))] 5)) := (Below.refl _ _).alloc (Nat.le_refl _) _
  have ch8 := ch7.trans (au.mono ch7.size)
  replace b0 := b0.below au b0.lt
  replace zp := zp.below au
  refine (HPT.out _).mono ?_
  rintro e u7 ⟨vc, rfl, zc, h7⟩
  clear hcv hcs au hT
  have ch9 := ch8.trans (h7.mono ch8.size)
  replace b0 := b0.below h7 b0.lt
  replace zp := zp.below h7
  obtain ⟨nc, C, cc, Hnc, rfl, hsc⟩ := whz_len zc
  clear hsc
  have a8v : Below u7.heap.size u7 (u7.alloc (.cells #[.bool (decide (Z2 < 0)), .slice C nc cc] 26)) := (Below.refl _ _).alloc (Nat.le_refl _) _
  have b2 : Blk (u7.alloc (.cells #[.bool (decide (Z2 < 0)), .slice C nc cc] 26)) u7.heap.size 26 #[.bool (decide (Z2 < 0)), .slice C nc cc] := Blk.new _ _ _
  have ch10 := ch9.trans (a8v.mono ch9.size)
  replace b0 := b0.below a8v b0.lt
  replace zp := zp.below a8v
  replace zc := zc.below a8v
  go_wp2_with fail
  refine (num_wh (dn : Int) _ (by omega) (by omega)).mono ?_
  rintro e u9 ⟨vzs, rfl, zs, h9⟩
  have ch11 := ch10.trans (h9.mono ch10.size)
  replace b0 := b0.below h9 b0.lt
  replace b2 := b2.below h9 b2.lt
  replace zp := zp.below h9
  replace zc := zc.below h9
  have hdz : decide ((dn : Int) < 0) = false := by simp
  obtain ⟨ns, D, cs, Hns, rfl, hss⟩ := whz_len zs
  clear hss
  rw [hdz] at zs ⊢
  have NB0 : Hid (w.heap.size ≠ u9.heap.size) := Nat.ne_of_lt b0.lt
  have NB2 : Hid (u7.heap.size ≠ u9.heap.size) := Nat.ne_of_lt b2.lt
  have HW3 : Hid (w.heap.size ≤ u9.heap.size) := ch11.size
  have a10v : Below u9.heap.size u9 (u9.alloc (.cells #[.bool false, .slice D ns cs] 26)) := (Below.refl _ _).alloc (Nat.le_refl _) _
  have b3 : Blk (u9.alloc (.cells #[.bool false, .slice D ns cs] 26)) u9.heap.size 26 #[.bool false, .slice D ns cs] := Blk.new _ _ _
  have ch12 := ch11.trans (a10v.mono ch11.size)
  replace b0 := b0.below a10v b0.lt
  replace b2 := b2.below a10v b2.lt
  replace zp := zp.below a10v
  replace zc := zc.below a10v
  replace zs := zs.below a10v
  have HDZ : Hid ((dn : Int) < 10) := by show _ < _; omega
  have c0b0 := (b0.cell 0).trans (b := some (Value.bool true)) rfl
  have c1b0 := (b0.cell 1).trans (b := some (Value.slice A na ca)) rfl
  have c0b2 := (b2.cell 0).trans (b := some (Value.bool (decide (Z2 < 0)))) rfl
  have c1b2 := (b2.cell 1).trans (b := some (Value.slice C nc cc)) rfl
  have c0b3 := (b3.cell 0).trans (b := some (Value.bool false)) rfl
  have c1b3 := (b3.cell 1).trans (b := some (Value.slice D ns cs)) rfl
  have hb3f := b3.frozen 0
  have hb3g := b3.frozen 1
  have hb3l := b3.lt
  go_wp2_with fail
  refine (num_wh (-(dn : Int)) _ (by omega) (by omega)).mono ?_
  rintro e u11 ⟨vt, rfl, zt, h11⟩
  clear c0b0 c1b0 c0b2 c1b2 c0b3 c1b3
  clear hb3f hb3g hb3l
  clear zs
  have ch13 := ch12.trans (h11.mono ch12.size)
  replace b0 := b0.below h11 b0.lt
  replace b2 := b2.below h11 b2.lt
  replace b3 := b3.below h11 b3.lt
  replace zp := zp.below h11
  replace zc := zc.below h11
  obtain ⟨nt, E, ct, Hnt, rfl, hst⟩ := whz_len zt
  clear hst
  obtain ⟨tb, htb⟩ : ∃ tb, decide (-(dn : Int) < 0) = tb := ⟨_, rfl⟩
  rw [htb] at zt ⊢
  have c0b0 := (b0.cell 0).trans (b := some (Value.bool true)) rfl
  have c1b0 := (b0.cell 1).trans (b := some (Value.slice A na ca)) rfl
  have c0b2 := (b2.cell 0).trans (b := some (Value.bool (decide (Z2 < 0)))) rfl
  have c1b2 := (b2.cell 1).trans (b := some (Value.slice C nc cc)) rfl
  have c0b3 := (b3.cell 0).trans (b := some (Value.bool false)) rfl
  have c1b3 := (b3.cell 1).trans (b := some (Value.slice D ns cs)) rfl
  have hb3f := b3.frozen 0
  have hb3g := b3.frozen 1
  have hb3l := b3.lt
  go_upto_region 15 with fail
  clear c0b0 c1b0 c0b2 c1b2 c0b3 c1b3
  clear hb3f hb3g hb3l
  replace zp := whz_store2 zp b3 tb E nt ct
  replace zc := whz_store2 zc b3 tb E nt ct
  replace zt := whz_store2 zt b3 tb E nt ct
  replace b0 := (b0.far (p := ⟨u9.heap.size, 0, none⟩) NB0.out (.bool tb)).far (p := ⟨u9.heap.size, 1, none⟩) NB0.out (.slice E nt ct)
  replace b2 := (b2.far (p := ⟨u9.heap.size, 0, none⟩) NB2.out (.bool tb)).far (p := ⟨u9.heap.size, 1, none⟩) NB2.out (.slice E nt ct)
  replace b3 := (b3.set_ 0 (.bool tb)).set_ 1 (.slice E nt ct)
  have chS := (ch13.setCell (p := ⟨u9.heap.size, 0, none⟩) HW3.out (.bool tb)).setCell (p := ⟨u9.heap.size, 1, none⟩) HW3.out (.slice E nt ct)
  have lzp_ : Hid (Lz 100 (zv true la)) := HLP.out
  have kzp_ : Hid (Lz 1024 (zv true la)) := lzp_.out.mono (by omega)
  have l10_ : Hid (Lz 1 10) := lz_one (by decide)
  have k10_ : Hid (Lz 1024 10) := l10_.out.mono (by omega)
  have lst_ : Hid (Lz 1 (-(dn : Int))) := lz_one (by omega)
  have kst_ : Hid (Lz 1024 (-(dn : Int))) := lst_.out.mono (by omega)
  have lpr_ : Hid (Lz 101 (zv true la * 10)) := lzp_.out.mul l10_.out
  have kpr_ : Hid (Lz 1024 (zv true la * 10)) := lpr_.out.mono (by omega)
  have ksm_ : Hid (Lz 1024 (zv true la * 10 + (-(dn : Int)))) := (lpr_.out.add (lst_.out.mono (by omega))).mono (by omega)
  have b0_12_0 := b0.drew
  have b2_12_0 := b2.drew
  have b3_12_0 := b3.drew
  have zp_12_0 := whz_drew zp
  have zc_12_0 := whz_drew zc
  have zt_12_0 := whz_drew zt
  have ch_12_0 := chS.drew
  have kk_12_0 := cellsG6 b0_12_0 b2_12_0 b3_12_0
  clear chS b0 b2 b3 zp zc zt
  go_region_held3 (fun w' => w'.cell? ⟨w.heap.size, 0, none⟩ = some (.bool true) ∧ w'.cell? ⟨w.heap.size, 1, none⟩ = some (.slice A na ca) ∧ w'.cell? ⟨u7.heap.size, 0, none⟩ = some (.bool (decide (Z2 < 0))) ∧ w'.cell? ⟨u7.heap.size, 1, none⟩ = some (.slice C nc cc) ∧ w'.cell? ⟨u9.heap.size, 0, none⟩ = some (.bool tb) ∧ w'.cell? ⟨u9.heap.size, 1, none⟩ = some (.slice E nt ct))
    (first | (with_reducible exact kk_12_4) | (with_reducible exact kk_12_3) | (with_reducible exact kk_12_2) | (with_reducible exact kk_12_1) | (with_reducible exact kk_12_0))
    (first | (have _guard := kk_12_3; clear _guard; go_at_call 30; refine (equal_l zc_12_3 zsm_12_3 HL2.out ksm_.out HZ2.out).mono ?_; rintro e w_12_4 ⟨rfl, hb_12_4⟩; have b0_12_4 := b0_12_3.below hb_12_4 b0_12_3.lt; have b2_12_4 := b2_12_3.below hb_12_4 b2_12_3.lt; have b3_12_4 := b3_12_3.below hb_12_4 b3_12_3.lt; have zp_12_4 := zp_12_3.below hb_12_4; have zc_12_4 := zc_12_3.below hb_12_4; have zt_12_4 := zt_12_3.below hb_12_4; have ch_12_4 := ch_12_3.trans (hb_12_4.mono ch_12_3.size); have kk_12_4 := cellsG6 b0_12_4 b2_12_4 b3_12_4; clear b0_12_3 b2_12_3 b3_12_3 zp_12_3 zc_12_3 zt_12_3 zsm_12_3 ch_12_3 kk_12_3 hb_12_4) | (have _guard := kk_12_2; clear _guard; go_at_call 31; refine (sumv zpr_12_2 zt_12_2 kpr_.out kst_.out ksm_.out).mono ?_; rintro e w_12_3 ⟨vzsm, rfl, zsm_12_3, hb_12_3⟩; have b0_12_3 := b0_12_2.below hb_12_3 b0_12_2.lt; have b2_12_3 := b2_12_2.below hb_12_3 b2_12_2.lt; have b3_12_3 := b3_12_2.below hb_12_3 b3_12_2.lt; have zp_12_3 := zp_12_2.below hb_12_3; have zc_12_3 := zc_12_2.below hb_12_3; have zt_12_3 := zt_12_2.below hb_12_3; have ch_12_3 := ch_12_2.trans (hb_12_3.mono ch_12_2.size); have kk_12_3 := cellsG6 b0_12_3 b2_12_3 b3_12_3; clear b0_12_2 b2_12_2 b3_12_2 zp_12_2 zc_12_2 zt_12_2 zpr_12_2 ch_12_2 kk_12_2 hb_12_3) | (have _guard := kk_12_1; clear _guard; go_at_call 32; refine (prodv zp_12_1 zten_12_1 kzp_.out k10_.out kpr_.out).mono ?_; rintro e w_12_2 ⟨vzpr, rfl, zpr_12_2, hb_12_2⟩; have b0_12_2 := b0_12_1.below hb_12_2 b0_12_1.lt; have b2_12_2 := b2_12_1.below hb_12_2 b2_12_1.lt; have b3_12_2 := b3_12_1.below hb_12_2 b3_12_1.lt; have zp_12_2 := zp_12_1.below hb_12_2; have zc_12_2 := zc_12_1.below hb_12_2; have zt_12_2 := zt_12_1.below hb_12_2; have ch_12_2 := ch_12_1.trans (hb_12_2.mono ch_12_1.size); have kk_12_2 := cellsG6 b0_12_2 b2_12_2 b3_12_2; clear b0_12_1 b2_12_1 b3_12_1 zp_12_1 zc_12_1 zt_12_1 zten_12_1 ch_12_1 kk_12_1 hb_12_2) | (have _guard := kk_12_0; clear _guard; go_at_call 25; refine (num_wh 10 _ (by omega) (by omega)).mono ?_; rintro e w_12_1 ⟨vzten, rfl, zten_12_1, hb_12_1⟩; have b0_12_1 := b0_12_0.below hb_12_1 b0_12_0.lt; have b2_12_1 := b2_12_0.below hb_12_1 b2_12_0.lt; have b3_12_1 := b3_12_0.below hb_12_1 b3_12_0.lt; have zp_12_1 := zp_12_0.below hb_12_1; have zc_12_1 := zc_12_0.below hb_12_1; have zt_12_1 := zt_12_0.below hb_12_1; have ch_12_1 := ch_12_0.trans (hb_12_1.mono ch_12_0.size); have kk_12_1 := cellsG6 b0_12_1 b2_12_1 b3_12_1; clear b0_12_0 b2_12_0 b3_12_0 zp_12_0 zc_12_0 zt_12_0 ch_12_0 kk_12_0 hb_12_1))
  have b0 := b0_12_4
  have b2 := b2_12_4
  have b3 := b3_12_4
  have zp := zp_12_4
  have zc := zc_12_4
  have zt := zt_12_4
  have ch14 := ch_12_4
  clear b0_12_4 b2_12_4 b3_12_4 zp_12_4 zc_12_4 zt_12_4 kk_12_4 ch_12_4
  clear zc zt
  clear b2 b3
  cases htb2 : textB txt with
  | true =>
    have HQ : Hid (textB txt = true) := htb2
    clear htb2
    have hLq := (text_lz HQ.out htl (m := 100) (by omega)).mono (k := 1024) (by omega)
    have HLq : Hid (Lz 1024 (textZ txt)) := hLq
    clear hLq
    obtain ⟨Tq, hTq⟩ : ∃ Tq, strOfNums (asInts (form (decide (textZ txt < 0)) (val (digs (textZ txt).natAbs)))) = Tq := ⟨_, rfl⟩
    have HTq : Hid (Tq = txt) := text_same HQ.out (by rw [← hTq, val_digs])
    go_wp2_with fail
    refine (parse_yes (s := txt) (by omega) HQ.out HLq.out).mono ?_
    rintro e u13 ⟨vq, rfl, zq, h13⟩
    have ch15 := ch14.trans (h13.mono ch14.size)
    replace b0 := b0.below h13 b0.lt
    replace zp := zp.below h13
    obtain ⟨nq, Q, cq, Hnq, rfl, hsq⟩ := whz_len zq
    clear hsq
    obtain ⟨bq, hbq⟩ : ∃ bq, decide (textZ txt < 0) = bq := ⟨_, rfl⟩
    have HBQ : Hid (decide (textZ txt < 0) = bq) := hbq
    rw [hbq] at zq ⊢
    clear hbq
    have a14v : Below u13.heap.size u13 (u13.alloc (.cells #[.bool bq, .slice Q nq cq] 26)) := (Below.refl _ _).alloc (Nat.le_refl _) _
    have b4 : Blk (u13.alloc (.cells #[.bool bq, .slice Q nq cq] 26)) u13.heap.size 26 #[.bool bq, .slice Q nq cq] := Blk.new _ _ _
    have ch16 := ch15.trans (a14v.mono ch15.size)
    replace b0 := b0.below a14v b0.lt
    replace zp := zp.below a14v
    replace zq := zq.below a14v
    have c0b0 := (b0.cell 0).trans (b := some (Value.bool true)) rfl
    have c1b0 := (b0.cell 1).trans (b := some (Value.slice A na ca)) rfl
    have c0b4 := (b4.cell 0).trans (b := some (Value.bool bq)) rfl
    have c1b4 := (b4.cell 1).trans (b := some (Value.slice Q nq cq)) rfl
    go_wp2_with fail
    refine (text_wh (show Wh _ _ _ _ from (by rw [← HBQ.out] at zq ⊢; exact zq)) (HLq.out.ok (Nat.le_refl _))).mono ?_
    rintro e u15 ⟨rfl, h15⟩
    clear c0b0 c1b0 c0b4 c1b4
    have ch17 := ch16.trans (h15.mono ch16.size)
    replace b0 := b0.below h15 b0.lt
    replace b4 := b4.below h15 b4.lt
    replace zp := zp.below h15
    replace zq := zq.below h15
    rw [hTq, HTq.out]
    go_wp2
    go_ret
    exact ⟨rfl, ch17⟩
  | false =>
    have HQ : Hid (textB txt = false) := htb2
    clear htb2
    go_wp2_with fail
    refine (parse_no (s := txt) (by omega) HQ.out).mono ?_
    rintro e u16 ⟨vq, rfl, zq, h16⟩
    have ch15 := ch14.trans (h16.mono ch14.size)
    replace b0 := b0.below h16 b0.lt
    replace zp := zp.below h16
    obtain ⟨nq, Q, cq, Hnq, rfl⟩ := zero_cells zq
    obtain rfl : nq = 0 := Hnq.out
    clear zq
    have a17v : Below u16.heap.size u16 (u16.alloc (.cells #[.bool false, .slice Q 0 cq] 26)) := (Below.refl _ _).alloc (Nat.le_refl _) _
    have b4 : Blk (u16.alloc (.cells #[.bool false, .slice Q 0 cq] 26)) u16.heap.size 26 #[.bool false, .slice Q 0 cq] := Blk.new _ _ _
    have ch16 := ch15.trans (a17v.mono ch15.size)
    replace b0 := b0.below a17v b0.lt
    replace zp := zp.below a17v
    have c0b0 := (b0.cell 0).trans (b := some (Value.bool true)) rfl
    have c1b0 := (b0.cell 1).trans (b := some (Value.slice A na ca)) rfl
    have c0b4 := (b4.cell 0).trans (b := some (Value.bool false)) rfl
    have c1b4 := (b4.cell 1).trans (b := some (Value.slice Q 0 cq)) rfl
    go_wp2
    go_ret
    exact ⟨rfl, ch16⟩

end Go.Proofs.Ytgnidjhfiagfnaa
