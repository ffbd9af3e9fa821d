/- WholeTexts' function returns true. Conditions: the number lies in memory. -/
import Derived.Test.YtgnidjhfiagfnaaXn
import Derived.Test.YtgnidjhfiagfnaaTxts
import Derived.Deep.RegionHeld3
import Derived.Deep.CutRange
namespace Go.Proofs.Ytgnidjhfiagfnaa
open Go.RowKit

theorem zv_sign {x : Bool} {l : List Nat} (hl : Limbs l) (hv : validB x l = true) : decide (zv x l < 0) = x := by
  have hn := valid_norm hl hv
  unfold zv
  cases x
  · simp
  · have := hn.2.2 rfl
    simp; omega
theorem conv1 (w : World) (c : Int) : (convert 48 9 (.slice (some ⟨w.heap.size, 0, none⟩) 1 1)).run Try.prog (w.alloc (.cells #[.int .u8 c] 5)) = .ok (.string (strOfNums [c])) (w.alloc (.cells #[.int .u8 c] 5)) := by
  refine run_convert_bytes_arg _ 48 5 Try.underlying48 Try.underlying5 w.heap.size 0 1 1 [c] rfl (fun i hi => ?_) 9 Try.underlying9
  have hi0 : i = 0 := by omega
  subst hi0
  have := (Blk.new w 5 #[.int .u8 c]).cell 0
  exact this
theorem byt_append (a b : ByteArray) : byt (a ++ b) = byt a ++ byt b := by
  unfold byt
  rw [ByteArray.data_append, Array.toList_append, List.map_append]
theorem byt_one (S : ByteArray) (dn : Nat) (h : dn < 10) : byt (S ++ strOfNums [48 + (dn : Int)]) = byt S ++ [48 + dn] := by
  rw [byt_append]
  congr 1
  have e : [48 + (dn : Int)] = asInts [48 + dn] := by simp [asInts]
  rw [e, byt_str]
  intro x hx
  simp at hx
  omega
theorem one_size (S : ByteArray) (dn : Nat) : (S ++ strOfNums [48 + (dn : Int)]).size = S.size + 1 := by
  rw [← byt_length, byt_append, List.length_append, byt_length, byt_length, strOfNums_size]
  rfl
theorem cellsG2 {w : World} {M : Nat} {a b : Value} (h0 : Blk w M 26 #[a, b]) : w.cell? ⟨M, 0, none⟩ = some a ∧ w.cell? ⟨M, 1, none⟩ = some b := ⟨h0.cell 0, h0.cell 1⟩
theorem cellsG4 {w : World} {M N : Nat} {a b c d : Value} (h0 : Blk w M 26 #[a, b]) (h1 : Blk w N 26 #[c, d]) : w.cell? ⟨M, 0, none⟩ = some a ∧ w.cell? ⟨M, 1, none⟩ = some b ∧ w.cell? ⟨N, 0, none⟩ = some c ∧ w.cell? ⟨N, 1, none⟩ = some d := ⟨h0.cell 0, h0.cell 1, h1.cell 0, h1.cell 1⟩
theorem cellsG6 {w : World} {M N K : Nat} {a b c d e f : Value} (h0 : Blk w M 26 #[a, b]) (h1 : Blk w N 26 #[c, d]) (h2 : Blk w K 26 #[e, f]) : w.cell? ⟨M, 0, none⟩ = some a ∧ w.cell? ⟨M, 1, none⟩ = some b ∧ w.cell? ⟨N, 0, none⟩ = some c ∧ w.cell? ⟨N, 1, none⟩ = some d ∧ w.cell? ⟨K, 0, none⟩ = some e ∧ w.cell? ⟨K, 1, none⟩ = some f := ⟨h0.cell 0, h0.cell 1, h1.cell 0, h1.cell 1, h2.cell 0, h2.cell 1⟩

set_option maxRecDepth 100000 in
set_option maxHeartbeats 2000000 in
theorem texts_not {x : Bool} {la : List Nat} {A : Option Addr} {na ca : Nat} {w : World} (sa : Sl w (.slice A na ca) la) (hna : Hid (la.length = na)) (txt : ByteArray) (d0 : Int) (hu : uB 100 x la = false) :
  Calls Try.prog 9 #[.agg #[.bool x, .slice A na ca], .string txt, .int .u8 d0] w fun e w' => e = .returned (.bool true) ∧ Below w.heap.size w w' := by
  have b0 : Blk (w.alloc (.cells #[.bool x, .slice A na ca] 26)) w.heap.size 26 #[.bool x, .slice A na ca] := by
    have := (Blk.new w 26 #[.bool x, .slice A na ca])
    exact this
  have bw : Below w.heap.size w (w.alloc (.cells #[.bool x, .slice A na ca] 26)) := (by repeat (first | exact Below.refl _ _ | assumption | refine Below.alloc ?_ (by first | (simp; done) | (simp; omega) | omega) _ | refine Below.setCell ?_ (by first | (simp; done) | (simp; omega) | omega) _ | refine Below.drew ?_))
  replace sa := sa.below bw
  go_enter Try.func9, Try.ntmps9
  go_wp2_with fail
  refine (awake_any _).mono ?_
  rintro e u1 ⟨rfl, h1⟩
  have ch1 := bw.trans (h1.mono bw.size)
  replace b0 := b0.below h1 b0.lt
  replace sa := sa.below h1
  have c0b0 := (b0.cell 0).trans (b := some (Value.bool x)) rfl
  have c1b0 := (b0.cell 1).trans (b := some (Value.slice A na ca)) rfl
  have al : Below u1.heap.size u1 (u1.alloc (.cells #[.bool x, .slice A na ca] 26)) := (Below.refl _ _).alloc (Nat.le_refl _) _
  have bk : Blk (u1.alloc (.cells #[.bool x, .slice A na ca] 26)) u1.heap.size 26 #[.bool x, .slice A na ca] := Blk.new _ _ _
  go_wp2_with fail
  clear c0b0 c1b0
  have ch2 := ch1.trans (al.mono ch1.size)
  replace b0 := b0.below al b0.lt
  replace sa := sa.below al
  refine (usable1 (most := 100) (by omega) sa hna bk).mono ?_
  rintro e u2 ⟨rfl, h2⟩
  rw [hu]
  clear bk al
  have ch3 := ch2.trans (h2.mono ch2.size)
  replace b0 := b0.below h2 b0.lt
  replace sa := sa.below h2
  go_wp2
  go_ret
  exact ⟨rfl, ch3⟩

set_option maxRecDepth 100000 in
set_option maxHeartbeats 2000000 in
theorem texts_long {x : Bool} {la : List Nat} {A : Option Addr} {na ca : Nat} {w : World} (sa : Sl w (.slice A na ca) la) (hna : Hid (la.length = na)) (txt : ByteArray) (d0 : Int) (hu : uB 100 x la = true) (htl : 400 < txt.size) (htm : txt.size ≤ 4611686018427387904) :
  Calls Try.prog 9 #[.agg #[.bool x, .slice A na ca], .string txt, .int .u8 d0] w fun e w' => e = .returned (.bool true) ∧ Below w.heap.size w w' := by
  have b0 : Blk (w.alloc (.cells #[.bool x, .slice A na ca] 26)) w.heap.size 26 #[.bool x, .slice A na ca] := by
    have := (Blk.new w 26 #[.bool x, .slice A na ca])
    exact this
  have bw : Below w.heap.size w (w.alloc (.cells #[.bool x, .slice A na ca] 26)) := (by repeat (first | exact Below.refl _ _ | assumption | refine Below.alloc ?_ (by first | (simp; done) | (simp; omega) | omega) _ | refine Below.setCell ?_ (by first | (simp; done) | (simp; omega) | omega) _ | refine Below.drew ?_))
  replace sa := sa.below bw
  go_enter Try.func9, Try.ntmps9
  go_wp2_with fail
  refine (awake_any _).mono ?_
  rintro e u1 ⟨rfl, h1⟩
  have ch1 := bw.trans (h1.mono bw.size)
  replace b0 := b0.below h1 b0.lt
  replace sa := sa.below h1
  have c0b0 := (b0.cell 0).trans (b := some (Value.bool x)) rfl
  have c1b0 := (b0.cell 1).trans (b := some (Value.slice A na ca)) rfl
  have al : Below u1.heap.size u1 (u1.alloc (.cells #[.bool x, .slice A na ca] 26)) := (Below.refl _ _).alloc (Nat.le_refl _) _
  have bk : Blk (u1.alloc (.cells #[.bool x, .slice A na ca] 26)) u1.heap.size 26 #[.bool x, .slice A na ca] := Blk.new _ _ _
  go_wp2_with fail
  clear c0b0 c1b0
  have ch2 := ch1.trans (al.mono ch1.size)
  replace b0 := b0.below al b0.lt
  replace sa := sa.below al
  refine (usable1 (most := 100) (by omega) sa hna bk).mono ?_
  rintro e u2 ⟨rfl, h2⟩
  rw [hu]
  clear bk al
  have ch3 := ch2.trans (h2.mono ch2.size)
  replace b0 := b0.below h2 b0.lt
  replace sa := sa.below h2
  go_wp2
  go_ret
  exact ⟨rfl, ch3⟩

set_option maxRecDepth 100000 in
set_option maxHeartbeats 2000000 in
theorem texts_pos {la : List Nat} {A : Option Addr} {na ca : Nat} {w : World} (sa : Sl w (.slice A na ca) la) (hna : Hid (la.length = na)) (txt : ByteArray) (d0 : Int) (hu : uB 100 false la = true) (htl : txt.size ≤ 400) (hd0 : 0 ≤ d0) (hd1 : d0 ≤ 255) (hla : la ≠ []) :
  Calls Try.prog 9 #[.agg #[.bool false, .slice A na ca], .string txt, .int .u8 d0] w fun e w' => e = .returned (.bool true) ∧ Below w.heap.size w w' := by
  have b0 : Blk (w.alloc (.cells #[.bool false, .slice A na ca] 26)) w.heap.size 26 #[.bool false, .slice A na ca] := by
    have := (Blk.new w 26 #[.bool false, .slice A na ca])
    exact this
  have bw : Below w.heap.size w (w.alloc (.cells #[.bool false, .slice A na ca] 26)) := (by repeat (first | exact Below.refl _ _ | assumption | refine Below.alloc ?_ (by first | (simp; done) | (simp; omega) | omega) _ | refine Below.setCell ?_ (by first | (simp; done) | (simp; omega) | omega) _ | refine Below.drew ?_))
  replace sa := sa.below bw
  have hva := (uB_lz (wh_of_sl (x := false) sa hna) hu).1
  have zp := (uB_lz (wh_of_sl (x := false) sa hna) hu).2.1
  have lp := (uB_lz (wh_of_sl (x := false) sa hna) hu).2.2
  have hl100 : la.length ≤ 100 := by unfold uB at hu; simp at hu; exact hu.1
  obtain ⟨S, hS⟩ : ∃ S, strOfNums (asInts (form false (val la))) = S := ⟨_, rfl⟩
  have hfa := text_facts sa.1 hva hl100 hS
  have HTB : Hid (textB S = true) := hfa.1
  have HTZ : Hid (textZ S = zv false la) := hfa.2.1
  have hSs : S.size ≤ 502 := hfa.2.2.1
  have HBY : Hid (byt S = form false (val la)) := hfa.2.2.2
  have h45 := form_first hfa.2.2.2
  have hS0 := h45.1
  have hS45 : ((S[0].toNat : Int) == 45) = false := h45.2 hS0
  have hSz : ((S.size : Int) == 0) = false := by rw [beq_eq_false_iff_ne]; omega
  clear hfa h45
  have HLA : Hid (Limbs la) := sa.1
  have HVA : Hid (validB false la = true) := hva
  have HHL : Hid (la ≠ []) := hla
  have HP : Hid (Lz 1024 (zv false la)) := lp.mono (by omega)
  have HLP : Hid (Lz 100 (zv false la)) := lp
  have hna0 : 0 < na := by
    have := hna.out
    have h2 : la.length ≠ 0 := fun e => hla (List.eq_nil_of_length_eq_zero e)
    omega
  have hn46 : na ≤ 100 := by have := hna.out; omega
  clear hla lp
  go_enter Try.func9, Try.ntmps9
  go_wp2_with fail
  refine (awake_any _).mono ?_
  rintro e u1 ⟨rfl, h1⟩
  have ch1 := bw.trans (h1.mono bw.size)
  replace b0 := b0.below h1 b0.lt
  replace zp := zp.below h1
  replace sa := sa.below h1
  have c0b0 := (b0.cell 0).trans (b := some (Value.bool false)) rfl
  have c1b0 := (b0.cell 1).trans (b := some (Value.slice A na ca)) rfl
  have al : Below u1.heap.size u1 (u1.alloc (.cells #[.bool false, .slice A na ca] 26)) := (Below.refl _ _).alloc (Nat.le_refl _) _
  have bk : Blk (u1.alloc (.cells #[.bool false, .slice A na ca] 26)) u1.heap.size 26 #[.bool false, .slice A na ca] := Blk.new _ _ _
  go_wp2_with fail
  clear c0b0 c1b0
  have ch2 := ch1.trans (al.mono ch1.size)
  replace b0 := b0.below al b0.lt
  replace zp := zp.below al
  replace sa := sa.below al
  refine (usable1 (most := 100) (by omega) sa hna bk).mono ?_
  rintro e u2 ⟨rfl, h2⟩
  rw [hu]
  clear bk al
  have ch3 := ch2.trans (h2.mono ch2.size)
  replace b0 := b0.below h2 b0.lt
  replace zp := zp.below h2
  replace sa := sa.below h2
  have c0b0 := (b0.cell 0).trans (b := some (Value.bool false)) rfl
  have c1b0 := (b0.cell 1).trans (b := some (Value.slice A na ca)) rfl
  go_wp2_with fail
  refine (text_wh (wh_of_sl sa hna) HVA.out).mono ?_
  rintro e u3 ⟨rfl, h3⟩
  clear c0b0 c1b0
  have ch4 := ch3.trans (h3.mono ch3.size)
  replace b0 := b0.below h3 b0.lt
  replace zp := zp.below h3
  replace sa := sa.below h3
  rw [hS]
  clear sa hu hS hva hl100
  go_wp2_with fail
  refine (parse_yes (s := S) (by omega) HTB.out (by rw [HTZ.out]; exact HP.out)).mono ?_
  rintro e u4 ⟨vb, rfl, zb, h4⟩
  have ch5 := ch4.trans (h4.mono ch4.size)
  replace b0 := b0.below h4 b0.lt
  replace zp := zp.below h4
  rw [HTZ.out] at zb
  obtain ⟨nb, B, cb, Hnb, rfl, hsb⟩ := whz_len zb
  clear hsb
  have hsgn : decide (zv false la < 0) = false := zv_sign HLA.out HVA.out
  rw [hsgn] at zb
  rw [hsgn]
  have a5v : Below u4.heap.size u4 (u4.alloc (.cells #[.bool false, .slice B nb cb] 26)) := (Below.refl _ _).alloc (Nat.le_refl _) _
  have b1 : Blk (u4.alloc (.cells #[.bool false, .slice B nb cb] 26)) u4.heap.size 26 #[.bool false, .slice B nb cb] := Blk.new _ _ _
  have ch6 := ch5.trans (a5v.mono ch5.size)
  replace b0 := b0.below a5v b0.lt
  replace zp := zp.below a5v
  replace zb := zb.below a5v
  clear hsgn
  go_wp2
  have b0_6_0 := b0.drew
  have b1_6_0 := b1.drew
  have zp_6_0 := whz_drew zp
  have zb_6_0 := whz_drew zb
  have ch_6_0 := ch6.drew
  have kk_6_0 := cellsG4 b0_6_0 b1_6_0
  clear ch6 b0 b1 zp zb
  go_region_held3 (fun w' => w'.cell? ⟨w.heap.size, 0, none⟩ = some (.bool false) ∧ w'.cell? ⟨w.heap.size, 1, none⟩ = some (.slice A na ca) ∧ w'.cell? ⟨u4.heap.size, 0, none⟩ = some (.bool false) ∧ w'.cell? ⟨u4.heap.size, 1, none⟩ = some (.slice B nb cb))
    (first | (with_reducible exact kk_6_1) | (with_reducible exact kk_6_0))
    (first | (go_at_call 30; refine (equal_l zp_6_0 zb_6_0 HP.out HP.out rfl).mono ?_; rintro e w_6_1 ⟨rfl, hb_6_1⟩; have b0_6_1 := b0_6_0.below hb_6_1 b0_6_0.lt; have b1_6_1 := b1_6_0.below hb_6_1 b1_6_0.lt; have zp_6_1 := zp_6_0.below hb_6_1; have zb_6_1 := zb_6_0.below hb_6_1; have ch_6_1 := ch_6_0.trans (hb_6_1.mono ch_6_0.size); have kk_6_1 := cellsG4 b0_6_1 b1_6_1; clear b0_6_0 b1_6_0 zp_6_0 zb_6_0 ch_6_0 kk_6_0 hb_6_1))
  have b0 := b0_6_1
  have b1 := b1_6_1
  have zp := zp_6_1
  have zb := zb_6_1
  have ch7 := ch_6_1
  clear b0_6_1 b1_6_1 zp_6_1 zb_6_1 kk_6_1 ch_6_1
  clear zb
  clear b1
  obtain ⟨dn, hdn⟩ : ∃ dn : Nat, d0 % 10 = (dn : Int) := ⟨(d0 % 10).toNat, by omega⟩
  have hdn10 : dn < 10 := by omega
  have HDN : Hid (d0 % 10 = (dn : Int)) := hdn
  clear hdn
  have c0b0 := (b0.cell 0).trans (b := some (Value.bool false)) rfl
  have c1b0 := (b0.cell 1).trans (b := some (Value.slice A na ca)) rfl
  go_upto_region 10 with fail
  rw [HDN.out]
  have hcv := conv1 w_6_1 (48 + (dn : Int))
  have hcs : ¬ 9223372036854775807 < S.size + (strOfNums [48 + (dn : Int)]).size := by rw [strOfNums_size]; simp; omega
  obtain ⟨T, hT⟩ : ∃ T, S ++ strOfNums [48 + (dn : Int)] = T := ⟨_, rfl⟩
  have hbT : byt T = byt S ++ [48 + dn] := by rw [← hT]; exact byt_one S dn hdn10
  have hsT : T.size ≤ 503 := by rw [← hT, one_size]; omega
  have htm := text_more HLA.out HVA.out HHL.out hdn10 HBY.out hbT
  have HTT : Hid (textB T = true) := htm.1
  obtain ⟨Z2, hZ2⟩ : ∃ Z2, textZ T = Z2 := ⟨_, rfl⟩
  have HZ2 : Hid (Z2 = zv false la * 10 + (dn : Int)) := by rw [← hZ2]; exact htm.2
  have hL2 := (text_lz htm.1 hsT (m := 126) (by omega)).mono (k := 1024) (by omega)
  rw [hZ2] at hL2
  have HL2 : Hid (Lz 1024 Z2) := hL2
  have HPT : Hid (∀ W, Calls Try.prog 23 #[.string T] W fun e w' => ∃ v, e = .returned (.tuple #[v, .int .i64 0]) ∧ WhZ w' v Z2 ∧ Below W.heap.size W w') := fun W => by
    have := parse_yes (s := T) (w := W) (by omega) HTT.out (by rw [hZ2]; exact HL2.out)
    rw [hZ2] at this
    exact this
  clear hbT htm hZ2 hL2 hsT
  go_wp2_with fail
  clear c0b0 c1b0
  have au : Below w_6_1.heap.size w_6_1 (w_6_1.alloc (.cells #[.int .u8 (48 + (dn : Int))] 5)) := (Below.refl _ _).alloc (Nat.le_refl _) _
  have ch8 := ch7.trans (au.mono ch7.size)
  replace b0 := b0.below au b0.lt
  replace zp := zp.below au
  refine (HPT.out _).mono ?_
  rintro e u7 ⟨vc, rfl, zc, h7⟩
  clear hcv hcs au hT
  have ch9 := ch8.trans (h7.mono ch8.size)
  replace b0 := b0.below h7 b0.lt
  replace zp := zp.below h7
  obtain ⟨nc, C, cc, Hnc, rfl, hsc⟩ := whz_len zc
  clear hsc
  have a8v : Below u7.heap.size u7 (u7.alloc (.cells #[.bool (decide (Z2 < 0)), .slice C nc cc] 26)) := (Below.refl _ _).alloc (Nat.le_refl _) _
  have b2 : Blk (u7.alloc (.cells #[.bool (decide (Z2 < 0)), .slice C nc cc] 26)) u7.heap.size 26 #[.bool (decide (Z2 < 0)), .slice C nc cc] := Blk.new _ _ _
  have ch10 := ch9.trans (a8v.mono ch9.size)
  replace b0 := b0.below a8v b0.lt
  replace zp := zp.below a8v
  replace zc := zc.below a8v
  go_wp2_with fail
  refine (num_wh (dn : Int) _ (by omega) (by omega)).mono ?_
  rintro e u9 ⟨vzs, rfl, zs, h9⟩
  have ch11 := ch10.trans (h9.mono ch10.size)
  replace b0 := b0.below h9 b0.lt
  replace b2 := b2.below h9 b2.lt
  replace zp := zp.below h9
  replace zc := zc.below h9
  have hdz : decide ((dn : Int) < 0) = false := by simp
  obtain ⟨ns, D, cs, Hns, rfl, hss⟩ := whz_len zs
  clear hss
  rw [hdz] at zs ⊢
  have a10v : Below u9.heap.size u9 (u9.alloc (.cells #[.bool false, .slice D ns cs] 26)) := (Below.refl _ _).alloc (Nat.le_refl _) _
  have b3 : Blk (u9.alloc (.cells #[.bool false, .slice D ns cs] 26)) u9.heap.size 26 #[.bool false, .slice D ns cs] := Blk.new _ _ _
  have ch12 := ch11.trans (a10v.mono ch11.size)
  replace b0 := b0.below a10v b0.lt
  replace b2 := b2.below a10v b2.lt
  replace zp := zp.below a10v
  replace zc := zc.below a10v
  replace zs := zs.below a10v
  have lzp_ : Hid (Lz 100 (zv false la)) := HLP.out
  have kzp_ : Hid (Lz 1024 (zv false la)) := lzp_.out.mono (by omega)
  have l10_ : Hid (Lz 1 10) := lz_one (by decide)
  have k10_ : Hid (Lz 1024 10) := l10_.out.mono (by omega)
  have lst_ : Hid (Lz 1 (dn : Int)) := lz_one (by omega)
  have kst_ : Hid (Lz 1024 (dn : Int)) := lst_.out.mono (by omega)
  have lpr_ : Hid (Lz 101 (zv false la * 10)) := lzp_.out.mul l10_.out
  have kpr_ : Hid (Lz 1024 (zv false la * 10)) := lpr_.out.mono (by omega)
  have ksm_ : Hid (Lz 1024 (zv false la * 10 + (dn : Int))) := (lpr_.out.add (lst_.out.mono (by omega))).mono (by omega)
  have c0b0 := (b0.cell 0).trans (b := some (Value.bool false)) rfl
  have c1b0 := (b0.cell 1).trans (b := some (Value.slice A na ca)) rfl
  have c0b2 := (b2.cell 0).trans (b := some (Value.bool (decide (Z2 < 0)))) rfl
  have c1b2 := (b2.cell 1).trans (b := some (Value.slice C nc cc)) rfl
  have c0b3 := (b3.cell 0).trans (b := some (Value.bool false)) rfl
  have c1b3 := (b3.cell 1).trans (b := some (Value.slice D ns cs)) rfl
  go_wp2
  clear c0b0 c1b0 c0b2 c1b2 c0b3 c1b3
  have b0_11_0 := b0.drew
  have b2_11_0 := b2.drew
  have b3_11_0 := b3.drew
  have zp_11_0 := whz_drew zp
  have zc_11_0 := whz_drew zc
  have zs_11_0 := whz_drew zs
  have ch_11_0 := ch12.drew
  have kk_11_0 := cellsG6 b0_11_0 b2_11_0 b3_11_0
  clear ch12 b0 b2 b3 zp zc zs
  go_region_held3 (fun w' => w'.cell? ⟨w.heap.size, 0, none⟩ = some (.bool false) ∧ w'.cell? ⟨w.heap.size, 1, none⟩ = some (.slice A na ca) ∧ w'.cell? ⟨u7.heap.size, 0, none⟩ = some (.bool (decide (Z2 < 0))) ∧ w'.cell? ⟨u7.heap.size, 1, none⟩ = some (.slice C nc cc) ∧ w'.cell? ⟨u9.heap.size, 0, none⟩ = some (.bool false) ∧ w'.cell? ⟨u9.heap.size, 1, none⟩ = some (.slice D ns cs))
    (first | (with_reducible exact kk_11_4) | (with_reducible exact kk_11_3) | (with_reducible exact kk_11_2) | (with_reducible exact kk_11_1) | (with_reducible exact kk_11_0))
    (first | (have _guard := kk_11_3; clear _guard; go_at_call 30; refine (equal_l zc_11_3 zsm_11_3 HL2.out ksm_.out HZ2.out).mono ?_; rintro e w_11_4 ⟨rfl, hb_11_4⟩; have b0_11_4 := b0_11_3.below hb_11_4 b0_11_3.lt; have b2_11_4 := b2_11_3.below hb_11_4 b2_11_3.lt; have b3_11_4 := b3_11_3.below hb_11_4 b3_11_3.lt; have zp_11_4 := zp_11_3.below hb_11_4; have zc_11_4 := zc_11_3.below hb_11_4; have zs_11_4 := zs_11_3.below hb_11_4; have ch_11_4 := ch_11_3.trans (hb_11_4.mono ch_11_3.size); have kk_11_4 := cellsG6 b0_11_4 b2_11_4 b3_11_4; clear b0_11_3 b2_11_3 b3_11_3 zp_11_3 zc_11_3 zs_11_3 zsm_11_3 ch_11_3 kk_11_3 hb_11_4) | (have _guard := kk_11_2; clear _guard; go_at_call 31; refine (sumv zpr_11_2 zs_11_2 kpr_.out kst_.out ksm_.out).mono ?_; rintro e w_11_3 ⟨vzsm, rfl, zsm_11_3, hb_11_3⟩; have b0_11_3 := b0_11_2.below hb_11_3 b0_11_2.lt; have b2_11_3 := b2_11_2.below hb_11_3 b2_11_2.lt; have b3_11_3 := b3_11_2.below hb_11_3 b3_11_2.lt; have zp_11_3 := zp_11_2.below hb_11_3; have zc_11_3 := zc_11_2.below hb_11_3; have zs_11_3 := zs_11_2.below hb_11_3; have ch_11_3 := ch_11_2.trans (hb_11_3.mono ch_11_2.size); have kk_11_3 := cellsG6 b0_11_3 b2_11_3 b3_11_3; clear b0_11_2 b2_11_2 b3_11_2 zp_11_2 zc_11_2 zs_11_2 zpr_11_2 ch_11_2 kk_11_2 hb_11_3) | (have _guard := kk_11_1; clear _guard; go_at_call 32; refine (prodv zp_11_1 zten_11_1 kzp_.out k10_.out kpr_.out).mono ?_; rintro e w_11_2 ⟨vzpr, rfl, zpr_11_2, hb_11_2⟩; have b0_11_2 := b0_11_1.below hb_11_2 b0_11_1.lt; have b2_11_2 := b2_11_1.below hb_11_2 b2_11_1.lt; have b3_11_2 := b3_11_1.below hb_11_2 b3_11_1.lt; have zp_11_2 := zp_11_1.below hb_11_2; have zc_11_2 := zc_11_1.below hb_11_2; have zs_11_2 := zs_11_1.below hb_11_2; have ch_11_2 := ch_11_1.trans (hb_11_2.mono ch_11_1.size); have kk_11_2 := cellsG6 b0_11_2 b2_11_2 b3_11_2; clear b0_11_1 b2_11_1 b3_11_1 zp_11_1 zc_11_1 zs_11_1 zten_11_1 ch_11_1 kk_11_1 hb_11_2) | (have _guard := kk_11_0; clear _guard; go_at_call 25; refine (num_wh 10 _ (by omega) (by omega)).mono ?_; rintro e w_11_1 ⟨vzten, rfl, zten_11_1, hb_11_1⟩; have b0_11_1 := b0_11_0.below hb_11_1 b0_11_0.lt; have b2_11_1 := b2_11_0.below hb_11_1 b2_11_0.lt; have b3_11_1 := b3_11_0.below hb_11_1 b3_11_0.lt; have zp_11_1 := zp_11_0.below hb_11_1; have zc_11_1 := zc_11_0.below hb_11_1; have zs_11_1 := zs_11_0.below hb_11_1; have ch_11_1 := ch_11_0.trans (hb_11_1.mono ch_11_0.size); have kk_11_1 := cellsG6 b0_11_1 b2_11_1 b3_11_1; clear b0_11_0 b2_11_0 b3_11_0 zp_11_0 zc_11_0 zs_11_0 ch_11_0 kk_11_0 hb_11_1))
  have b0 := b0_11_4
  have b2 := b2_11_4
  have b3 := b3_11_4
  have zp := zp_11_4
  have zc := zc_11_4
  have zs := zs_11_4
  have ch13 := ch_11_4
  clear b0_11_4 b2_11_4 b3_11_4 zp_11_4 zc_11_4 zs_11_4 kk_11_4 ch_11_4
  clear zc zs
  clear b2 b3
  cases htb2 : textB txt with
  | true =>
    have HQ : Hid (textB txt = true) := htb2
    clear htb2
    have hLq := (text_lz HQ.out htl (m := 100) (by omega)).mono (k := 1024) (by omega)
    have HLq : Hid (Lz 1024 (textZ txt)) := hLq
    clear hLq
    obtain ⟨Tq, hTq⟩ : ∃ Tq, strOfNums (asInts (form (decide (textZ txt < 0)) (val (digs (textZ txt).natAbs)))) = Tq := ⟨_, rfl⟩
    have HTq : Hid (Tq = txt) := text_same HQ.out (by rw [← hTq, val_digs])
    go_wp2_with fail
    refine (parse_yes (s := txt) (by omega) HQ.out HLq.out).mono ?_
    rintro e u12 ⟨vq, rfl, zq, h12⟩
    have ch14 := ch13.trans (h12.mono ch13.size)
    replace b0 := b0.below h12 b0.lt
    replace zp := zp.below h12
    obtain ⟨nq, Q, cq, Hnq, rfl, hsq⟩ := whz_len zq
    clear hsq
    obtain ⟨bq, hbq⟩ : ∃ bq, decide (textZ txt < 0) = bq := ⟨_, rfl⟩
    have HBQ : Hid (decide (textZ txt < 0) = bq) := hbq
    rw [hbq] at zq ⊢
    clear hbq
    have a13v : Below u12.heap.size u12 (u12.alloc (.cells #[.bool bq, .slice Q nq cq] 26)) := (Below.refl _ _).alloc (Nat.le_refl _) _
    have b4 : Blk (u12.alloc (.cells #[.bool bq, .slice Q nq cq] 26)) u12.heap.size 26 #[.bool bq, .slice Q nq cq] := Blk.new _ _ _
    have ch15 := ch14.trans (a13v.mono ch14.size)
    replace b0 := b0.below a13v b0.lt
    replace zp := zp.below a13v
    replace zq := zq.below a13v
    have c0b0 := (b0.cell 0).trans (b := some (Value.bool false)) rfl
    have c1b0 := (b0.cell 1).trans (b := some (Value.slice A na ca)) rfl
    have c0b4 := (b4.cell 0).trans (b := some (Value.bool bq)) rfl
    have c1b4 := (b4.cell 1).trans (b := some (Value.slice Q nq cq)) rfl
    go_wp2_with fail
    refine (text_wh (show Wh _ _ _ _ from (by rw [← HBQ.out] at zq ⊢; exact zq)) (HLq.out.ok (Nat.le_refl _))).mono ?_
    rintro e u14 ⟨rfl, h14⟩
    clear c0b0 c1b0 c0b4 c1b4
    have ch16 := ch15.trans (h14.mono ch15.size)
    replace b0 := b0.below h14 b0.lt
    replace b4 := b4.below h14 b4.lt
    replace zp := zp.below h14
    replace zq := zq.below h14
    rw [hTq, HTq.out]
    go_wp2
    go_ret
    exact ⟨rfl, ch16⟩
  | false =>
    have HQ : Hid (textB txt = false) := htb2
    clear htb2
    go_wp2_with fail
    refine (parse_no (s := txt) (by omega) HQ.out).mono ?_
    rintro e u15 ⟨vq, rfl, zq, h15⟩
    have ch14 := ch13.trans (h15.mono ch13.size)
    replace b0 := b0.below h15 b0.lt
    replace zp := zp.below h15
    obtain ⟨nq, Q, cq, Hnq, rfl⟩ := zero_cells zq
    obtain rfl : nq = 0 := Hnq.out
    clear zq
    have a16v : Below u15.heap.size u15 (u15.alloc (.cells #[.bool false, .slice Q 0 cq] 26)) := (Below.refl _ _).alloc (Nat.le_refl _) _
    have b4 : Blk (u15.alloc (.cells #[.bool false, .slice Q 0 cq] 26)) u15.heap.size 26 #[.bool false, .slice Q 0 cq] := Blk.new _ _ _
    have ch15 := ch14.trans (a16v.mono ch14.size)
    replace b0 := b0.below a16v b0.lt
    replace zp := zp.below a16v
    have c0b0 := (b0.cell 0).trans (b := some (Value.bool false)) rfl
    have c1b0 := (b0.cell 1).trans (b := some (Value.slice A na ca)) rfl
    have c0b4 := (b4.cell 0).trans (b := some (Value.bool false)) rfl
    have c1b4 := (b4.cell 1).trans (b := some (Value.slice Q 0 cq)) rfl
    go_wp2
    go_ret
    exact ⟨rfl, ch15⟩

end Go.Proofs.Ytgnidjhfiagfnaa
