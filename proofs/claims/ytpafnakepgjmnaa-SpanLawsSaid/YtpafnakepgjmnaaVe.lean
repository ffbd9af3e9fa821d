/- SpanLaws' function returns true. -/
import Derived.Test.YtpafnakepgjmnaaVg
namespace Go.Proofs.Ytpafnakepgjmnaa
open Go.RowKit Go.Lib Go.Shelf

theorem own_ne {w : World} {base n g : Nat} {v : Value} {xs : List Value} {t : TypeId} {cs : Array Value} (h : w.ownsRow base 34 2 v n xs) (hb : Blk w g t cs) (ht : t ≠ 34) : some g ≠ v.ownBlock := by
  intro e
  rcases h.2 with ⟨rfl, _⟩ | ⟨g', cap, cur, rfl, _, hg, _⟩
  · cases e
  · cases e
    unfold Blk at hb
    rw [hb] at hg
    cases hg
    exact ht rfl

set_option maxRecDepth 100000 in
set_option maxHeartbeats 8000000 in
theorem laws_law (z0 z1 z2 : List Int) (X0 X1 X2 : Option Addr) (n0 n1 n2 k0 k1 k2 : Nat) (w : World) (b0 : n0 ≤ 4611686018427387904) (b1 : n1 ≤ 4611686018427387904) (b2 : n2 ≤ 4611686018427387904) (h0 : U16H w X0 n0 z0) (h1 : U16H w X1 n1 z1) (h2 : U16H w X2 n2 z2) :
    Calls Try.prog 7 #[.slice X0 n0 k0, .slice X1 n1 k1, .slice X2 n2 k2] w fun e w' => e = .returned (.bool true) ∧ Below w.heap.size w w' := by
  obtain ⟨i0, hi, hz0, hz1, hz2⟩ := info_parts info_sp
  have HI := hid hi
  have HZ := hid hz0
  have HZ1 := hid hz1
  have HZ2 := hid hz2
  have HB := hid (Below.refl w.heap.size w)
  have U0 := hid h0
  have U1 := hid h1
  have U2 := hid h2
  clear hi hz0 hz1 hz2 h0 h1 h2
  go_enter Try.func7, Try.ntmps7
  go_wp2_with fail
  refine (awake_any _).mono ?_
  rintro e u1 ⟨rfl, h⟩
  replace HB := hid (HB.out.trans (h.mono HB.out.size))
  clear h
  go_wp2_with fail
  refine (built_any z0 X0 n0 k0 _ b0 (U0.out.below HB.out)).mono ?_
  rintro e u2 ⟨v, a, rfl, Ia, la, ho, h⟩
  obtain ⟨Aa, ca, rfl, hca, _, Sa⟩ := ho.view
  clear ho
  replace Sa := hid Sa
  replace Ia := hid Ia
  replace HB := hid (HB.out.trans (h.mono HB.out.size))
  clear h
  go_wp2_with fail
  refine (built_any z1 X1 n1 k1 _ b1 (U1.out.below HB.out)).mono ?_
  rintro e u3 ⟨v, b, rfl, Ib, lb, ho, h⟩
  obtain ⟨Ab, cb, rfl, hcb, _, Sb⟩ := ho.view
  clear ho
  replace Sb := hid Sb
  replace Ib := hid Ib
  replace Sa := hid (Sa.out.below h)
  replace HB := hid (HB.out.trans (h.mono HB.out.size))
  clear h
  go_wp2_with fail
  refine (built_any z2 X2 n2 k2 _ b2 (U2.out.below HB.out)).mono ?_
  rintro e u4 ⟨v, c, rfl, Ic, lc, ho, h⟩
  obtain ⟨Ac, cc, rfl, hcc, _, Sc⟩ := ho.view
  clear ho
  replace Sc := hid Sc
  replace Ic := hid Ic
  replace Sa := hid (Sa.out.below h)
  replace Sb := hid (Sb.out.below h)
  replace HB := hid (HB.out.trans (h.mono HB.out.size))
  clear h
  have HSL := hid (show a.length ≤ 60 ∧ b.length ≤ 60 from ⟨la, lb⟩)
  obtain ⟨na, Hna⟩ : ∃ m, Hid (a.length = m) := ⟨_, rfl⟩
  obtain ⟨nb, Hnb⟩ : ∃ m, Hid (b.length = m) := ⟨_, rfl⟩
  obtain ⟨nc, Hnc⟩ : ∃ m, Hid (c.length = m) := ⟨_, rfl⟩
  rw [Hna.out] at hca la ⊢
  rw [Hnb.out] at hcb lb ⊢
  rw [Hnc.out] at hcc lc ⊢
  obtain ⟨nm, hnm, hma, hmb, hm60⟩ : ∃ nm : Nat, max (na : Int) (nb : Int) = (nm : Int) ∧ na ≤ nm ∧ nb ≤ nm ∧ nm ≤ 60 := ⟨max na nb, by omega, by omega, by omega, by omega⟩
  go_wp2
  have HG : Hid (Blk (u4.alloc (.cells #[.int .i64 0] 28)) u4.heap.size 28 #[.int .i64 0]) := Blk.new _ _ _
  have h : Below u4.heap.size u4 (u4.alloc (.cells #[.int .i64 0] 28)) := (Below.refl _ _).alloc (Nat.le_refl _) _
  replace Sa := hid (Sa.out.below h)
  replace Sb := hid (Sb.out.below h)
  replace Sc := hid (Sc.out.below h)
  replace HB := hid (HB.out.trans (h.mono HB.out.size))
  clear h
  generalize u4.heap.size = gb at *
  generalize u4.alloc (.cells #[.int .i64 0] 28) = W0 at *
  go_loopw [16, 38] (fun v i wr => ∃ (k : Nat) (R : List Sp), k ≤ nm ∧ i = .int .i64 k ∧ R.length ≤ 3 * k ∧ Hid ((∀ s ∈ R, s ∈ a ∨ s ∈ b) ∧ Cov R a k ∧ Cov R b k) ∧ OwnSp wr W0.heap.size v R ∧ Below W0.heap.size W0 wr) (fun _ i _ => nm - (intOf i).toNat)
  case atStart => exact ⟨0, [], by omega, rfl, by simp, ⟨fun s hs => (by cases hs), Cov.zero _ _, Cov.zero _ _⟩, ownSp_nil _ _, Below.refl _ _⟩
  case round =>
    obtain ⟨k, R, hk, rfl, hL, HC, ho, hw⟩ := hrel
    obtain ⟨AR, cR, rfl, hcR, _, SR⟩ := ho.view
    have HO := hid ho
    have HW := hid hw
    clear ho
    by_cases hlt : k < nm
    · have HB2 : Hid (Blk (wr.alloc (.cells #[.slice Ab nb cb, .slice Aa na ca, .slice Ab nb cb] 22)) wr.heap.size 22 #[.slice Ab nb cb, .slice Aa na ca, .slice Ab nb cb]) := Blk.new _ _ _
      have HO2 : Hid (OwnSp (wr.alloc (.cells #[.slice Ab nb cb, .slice Aa na ca, .slice Ab nb cb] 22)) W0.heap.size (.slice AR R.length cR) R) := HO.out.alloc _
      have HW2 : Hid (Below W0.heap.size W0 (wr.alloc (.cells #[.slice Ab nb cb, .slice Aa na ca, .slice Ab nb cb] 22))) := hw.alloc hw.size _
      clear HO HW hw hcR SR
      go_wp2
      generalize wr.heap.size = g2 at *
      generalize wr.alloc (.cells #[.slice Ab nb cb, .slice Aa na ca, .slice Ab nb cb] 22) = W1 at *
      have HL := hid hL
      go_loopw [16, 46] (fun v i ws => ∃ (j : Nat) (R : List Sp), j ≤ 3 ∧ i = .int .i64 j ∧ R.length ≤ 3 * k + j ∧ Hid ((∀ s ∈ R, s ∈ a ∨ s ∈ b) ∧ Cov R a (if 2 ≤ j then k + 1 else k) ∧ Cov R b (if 1 ≤ j then k + 1 else k)) ∧ OwnSp ws W0.heap.size v R ∧ Blk ws g2 22 #[.slice Ab nb cb, .slice Aa na ca, .slice Ab nb cb] ∧ Below W0.heap.size W0 ws) (fun _ i _ => 3 - (intOf i).toNat)
      case atStart => exact ⟨0, R, by omega, rfl, by have := HL.out; omega, HC, HO2.out, HB2.out, HW2.out⟩
      case round =>
        clear HO2 HB2 HW2 HC HL hL
        obtain ⟨j, R, hj, rfl, hL, HC, ho, hb, hw⟩ := hrel
        obtain ⟨AR, cR, rfl, hcR, _, SR⟩ := ho.view
        have HO := hid ho
        have HG2 := hid hb
        have HW := hid hw
        clear ho hcR SR
        by_cases hj3 : j < 3
        · obtain ⟨l, Al, cl, n, hcell, Hn, Il, Sl, hnm2, Hmem, HN⟩ : ∃ (l : List Sp) (Al : Option Addr) (cl n : Nat), wr.cell? ⟨g2, j, none⟩ = some (.slice Al n cl) ∧ Hid (l.length = n) ∧ Hid (IsSet l) ∧ Hid (SpH W0 Al l) ∧ n ≤ 60 ∧ Hid (∀ s ∈ l, s ∈ a ∨ s ∈ b) ∧
              Hid (Cov R l k ∧ ∀ R', (∀ m l', Cov R l' m → Cov R' l' m) → Cov R' l (k + 1) → Cov R' a (if 2 ≤ j + 1 then k + 1 else k) ∧ Cov R' b (if 1 ≤ j + 1 then k + 1 else k)) := by
            have hc := HC.out.2
            rcases (by omega : j = 0 ∨ j = 1 ∨ j = 2) with rfl | rfl | rfl
            · exact ⟨b, Ab, cb, nb, (hb.cell 0).trans rfl, Hnb, Ib, Sb, lb, fun s hs => .inr hs, hc.2, fun R' h1 h2 => ⟨h1 _ _ hc.1, h2⟩⟩
            · exact ⟨a, Aa, ca, na, (hb.cell 1).trans rfl, Hna, Ia, Sa, la, fun s hs => .inl hs, hc.1, fun R' h1 h2 => ⟨h2, h1 _ _ hc.2⟩⟩
            · refine ⟨b, Ab, cb, nb, (hb.cell 2).trans rfl, Hnb, Ib, Sb, lb, fun s hs => .inr hs, fun q h1 h2 => hc.2 q h1 (by simp; omega), fun R' h1 h2 => ⟨h1 _ _ hc.1, h2⟩⟩
          have hj4 : (j : Int) < 3 := by omega
          have hj5 : ¬ ((j : Int) < 0) := by omega
          clear hb
          by_cases hkn : k < n
          · obtain ⟨q, hq⟩ : ∃ q : Nat, n = q + k + 1 := ⟨n - 1 - k, by omega⟩
            obtain ⟨Bl, Ol, e, hBl, hc⟩ := (Sl.out.below hw).at_ Hn.out (by omega)
            subst e
            obtain ⟨x, hx⟩ : ∃ x, fr l q = x := ⟨_, rfl⟩
            obtain ⟨y, hy⟩ : ∃ y, tt l q = y := ⟨_, rfl⟩
            have c0 := (hc q (by omega)).1
            have c1 := (hc q (by omega)).2
            have Hx := hid hx
            have Hy := hid hy
            rw [hx] at c0
            rw [hy] at c1
            have e9 : (n : Int) - 1 - (k : Int) = q := by omega
            have e8 : ¬ ((q : Int) < 0) := by omega
            have e7 : (q : Int) < (n : Int) := by omega
            have m63 : R.length + 1 ≤ maxLen := by unfold maxLen; omega
            have mby : (R.length + 1) * 16 ≤ 140737488355328 := by omega
            have hbase : W0.heap.size ≤ (wr.alloc (.cells #[.int .i64 x, .int .i64 y] 34)).heap.size := by have := hw.size; simp; omega
            have hnews := cell_two_new (w := wr) (B := wr.heap.size) rfl 34 (.int .i64 x) (.int .i64 y)
            have HOO : Hid ((wr.alloc (.cells #[.int .i64 x, .int .i64 y] 34)).ownsRow W0.heap.size 34 2 (.slice AR R.length cR) R.length (cellsOf R)) := HO.out.alloc _
            have hone : ∀ u ∈ [Value.int .i64 x, Value.int .i64 y], u.oneCell' = true := by simp [Value.oneCell']
            have hge : decide (0 ≤ (q : Int)) = true := decide_eq_true (by omega)
            clear hx hy hc
            go_wp2_with (at_builtin; refine wpList_append_own _ rfl _ _ 22 rfl W0.heap.size 34 i0 (.agg #[.int .i64 0, .int .i64 0]) 2 16 Try.underlying22 HI.out HZ.out HZ1.out HZ2.out rfl (by decide) _ _ _ rfl HOO.out ⟨wr.heap.size, 0, none⟩ 1 1 [.int .i64 x, .int .i64 y] rfl rfl hnews hone m63 mby hbase ?_; intro v' w2 hown1 hgrow1 _)
            have HO3 : Hid (OwnSp w2 W0.heap.size v' (R ++ [(x, y)])) := by
              show w2.ownsRow _ _ _ _ _ _
              rw [cells_append, List.length_append]
              exact hown1
            have HW1 := hw.alloc hw.size (.cells #[.int .i64 x, .int .i64 y] 34)
            have HW3 : Hid (Below W0.heap.size W0 w2) := HW1.grown hgrow1 HW1.size (fun g e => (World.ownsRow.lt HOO.out g e).1)
            have HG3 : Hid (Blk w2 g2 22 #[.slice Ab nb cb, .slice Aa na ca, .slice Ab nb cb]) := (HG2.out.alloc _).grown hgrow1 (own_ne HOO.out (HG2.out.alloc _) (by decide))
            have HC3 : Hid ((∀ s ∈ R ++ [(x, y)], s ∈ a ∨ s ∈ b) ∧ Cov (R ++ [(x, y)]) a (if 2 ≤ j + 1 then k + 1 else k) ∧ Cov (R ++ [(x, y)]) b (if 1 ≤ j + 1 then k + 1 else k)) := by
              have hlq : l.length - 1 - k = q := by rw [Hn.out]; omega
              have hin : (x, y) ∈ l := by rw [← Hx.out, ← Hy.out]; exact mem_at (by rw [Hn.out]; omega)
              refine ⟨fun s hs => ?_, HN.out.2 _ (fun m l' h => h.more _) ?_⟩
              · rcases List.mem_append.1 hs with hs | hs
                · exact HC.out.1 s hs
                · obtain rfl := List.mem_singleton.1 hs
                  exact Hmem.out _ hin
              · have := HN.out.1.next (by rw [Hn.out]; omega)
                rw [hlq, Hx.out, Hy.out] at this
                exact this
            clear hown1 hgrow1 HW1 HOO HO HG2 HW hnews hone hbase hw
            go_wp2
            go_roundw
            case rel => exact ⟨j + 1, _, by omega, by go_num, by rw [List.length_append]; simp; omega, HC3, HO3.out, HG3.out, HW3.out⟩
            case measure => simp [intOf]; omega
          · have hge : decide (0 ≤ (n : Int) - 1 - (k : Int)) = false := decide_eq_false (by omega)
            have hge2 : ¬ (0 ≤ (n : Int) - 1 - (k : Int)) := by omega
            have HC3 := hid (HN.out.2 R (fun _ _ h => h) (HN.out.1.past (by rw [Hn.out]; omega)))
            clear hw
            go_wp2
            go_roundw
            case rel => exact ⟨j + 1, R, by omega, by go_num, by omega, ⟨HC.out.1, HC3.out⟩, HO.out, HG2.out, HW.out⟩
            case measure => simp [intOf]; omega
        · have hj4 : ¬ (j : Int) < 3 := by omega
          have HC3 : Hid ((∀ s ∈ R, s ∈ a ∨ s ∈ b) ∧ Cov R a (k + 1) ∧ Cov R b (k + 1)) := by
            have := HC.out
            rw [if_pos (by omega), if_pos (by omega)] at this
            exact this
          clear hw hb
          go_wp2
          go_roundw
          case rel => exact ⟨k + 1, R, by omega, by go_num, by omega, HC3, HO.out, HW.out⟩
          case measure => simp [intOf]; omega
    · have hlt' : ¬ (k : Int) < (nm : Int) := by omega
      have HM := made_L (i := k) HC.out.1 HC.out.2.1 HC.out.2.2 (by rw [Hna.out]; omega) (by rw [Hnb.out]; omega) Ia.out Ib.out
      have HV := hid HM.2
      have HM1 := hid HM.1
      have HGb : Hid (Blk wr gb 28 #[.int .i64 0]) := HG.out.below hw HG.out.lt
      replace Sa := hid (Sa.out.below hw)
      replace Sb := hid (Sb.out.below hw)
      replace Sc := hid (Sc.out.below hw)
      replace SR := hid SR
      replace HB := hid (HB.out.trans (hw.mono HB.out.size))
      clear HM HC HO HW HG hw hcR
      obtain ⟨u, Hu⟩ : ∃ r, Hid (combL orB a b = r) := ⟨_, rfl⟩
      have Iu : Hid (IsSet u) := by rw [← Hu.out]; exact norm_set _
      have lu := Iu.out.len_bd
      obtain ⟨v, Hv⟩ : ∃ r, Hid (combL andB a b = r) := ⟨_, rfl⟩
      have Iv : Hid (IsSet v) := by rw [← Hv.out]; exact norm_set _
      have lv := Iv.out.len_bd
      obtain ⟨p, Hp⟩ : ∃ r, Hid (combL orB u c = r) := ⟨_, rfl⟩
      have Ip : Hid (IsSet p) := by rw [← Hp.out]; exact norm_set _
      have lp := Ip.out.len_bd
      obtain ⟨q, Hq⟩ : ∃ r, Hid (combL orB b c = r) := ⟨_, rfl⟩
      have Iq : Hid (IsSet q) := by rw [← Hq.out]; exact norm_set _
      have lq := Iq.out.len_bd
      obtain ⟨s, Hs⟩ : ∃ r, Hid (combL andB v c = r) := ⟨_, rfl⟩
      have Is : Hid (IsSet s) := by rw [← Hs.out]; exact norm_set _
      have ls := Is.out.len_bd
      obtain ⟨t, Ht⟩ : ∃ r, Hid (combL andB b c = r) := ⟨_, rfl⟩
      have It : Hid (IsSet t) := by rw [← Ht.out]; exact norm_set _
      have lt := It.out.len_bd
      obtain ⟨x, Hx⟩ : ∃ r, Hid (combL andB a q = r) := ⟨_, rfl⟩
      have Ix : Hid (IsSet x) := by rw [← Hx.out]; exact norm_set _
      have lx := Ix.out.len_bd
      obtain ⟨y, Hy⟩ : ∃ r, Hid (combL andB a c = r) := ⟨_, rfl⟩
      have Iy : Hid (IsSet y) := by rw [← Hy.out]; exact norm_set _
      have ly := Iy.out.len_bd
      obtain ⟨z, Hz⟩ : ∃ r, Hid (combL orB a t = r) := ⟨_, rfl⟩
      have Iz : Hid (IsSet z) := by rw [← Hz.out]; exact norm_set _
      have lz := Iz.out.len_bd
      obtain ⟨d, Hd⟩ : ∃ r, Hid (combL orB a c = r) := ⟨_, rfl⟩
      have Id : Hid (IsSet d) := by rw [← Hd.out]; exact norm_set _
      have ld := Id.out.len_bd
      obtain ⟨m, Hm⟩ : ∃ r, Hid (combL butB a b = r) := ⟨_, rfl⟩
      have Im : Hid (IsSet m) := by rw [← Hm.out]; exact norm_set _
      have lm := Im.out.len_bd
      have E1 : Hid (combL orB b a = u) := or_comm_L.trans Hu.out
      have E2 : Hid (combL andB b a = v) := and_comm_L.trans Hv.out
      have E3 : Hid (combL orB a q = p) := by rw [← Hq.out]; exact (or_assoc_L Ia.out Ib.out Ic.out).trans (by rw [Hu.out]; exact Hp.out)
      have E4 : Hid (combL andB a t = s) := by rw [← Ht.out]; exact (and_assoc_L Ia.out Ib.out Ic.out).trans (by rw [Hv.out]; exact Hs.out)
      have E5 : Hid (combL orB v y = x) := by rw [← Hv.out, ← Hy.out]; exact (and_or_L Ia.out Ib.out Ic.out).trans (by rw [Hq.out]; exact Hx.out)
      have E6 : Hid (combL andB u d = z) := by rw [← Hu.out, ← Hd.out]; exact (or_and_L Ia.out Ib.out Ic.out).trans (by rw [Ht.out]; exact Hz.out)
      have E7 : Hid (combL butB a v = m) := by rw [← Hv.out]; exact (but_and_L Ia.out Ib.out).trans Hm.out
      have E8 := hid (HM1.out.trans Hu.out)
      go_wp2_with fail
      refine (make_eq (la := R) (R := u) E8.out HV.out (by omega) rfl SR.out).mono ?_
      rintro e u51 ⟨v, rfl, ho, h⟩
      obtain ⟨Amade, cmade, rfl, hcmade, _, Smade⟩ := ho.view
      clear ho
      replace Smade := hid Smade
      replace Sa := hid (Sa.out.below h)
      replace Sb := hid (Sb.out.below h)
      replace Sc := hid (Sc.out.below h)
      replace SR := hid (SR.out.below h)
      replace HGb := hid (HGb.out.below h HGb.out.lt)
      replace HB := hid (HB.out.trans (h.mono HB.out.size))
      clear h
      clear SR
      go_wp2_with fail
      refine (do_union (la := a) (lb := b) (R := u) (Hu.out) Ia.out Ib.out Hna.out Hnb.out Sa.out Sb.out HGb).mono ?_
      rintro e u52 ⟨v9, rfl, ho, h⟩
      obtain ⟨Ar1, cr1, rfl, _, _, Sr1⟩ := ho.view
      clear ho
      replace Sr1 := hid Sr1
      replace Sa := hid (Sa.out.below h)
      replace Sb := hid (Sb.out.below h)
      replace Sc := hid (Sc.out.below h)
      replace Smade := hid (Smade.out.below h)
      replace HGb := hid (HGb.out.below h HGb.out.lt)
      replace HB := hid (HB.out.trans (h.mono HB.out.size))
      clear h
      go_wp2_with fail
      refine (do_union (la := b) (lb := a) (R := u) (E1.out) Ib.out Ia.out Hnb.out Hna.out Sb.out Sa.out HGb).mono ?_
      rintro e u53 ⟨v9, rfl, ho, h⟩
      obtain ⟨Ar2, cr2, rfl, _, _, Sr2⟩ := ho.view
      clear ho
      replace Sr2 := hid Sr2
      replace Sa := hid (Sa.out.below h)
      replace Sb := hid (Sb.out.below h)
      replace Sc := hid (Sc.out.below h)
      replace Smade := hid (Smade.out.below h)
      replace Sr1 := hid (Sr1.out.below h)
      replace HGb := hid (HGb.out.below h HGb.out.lt)
      replace HB := hid (HB.out.trans (h.mono HB.out.size))
      clear h
      go_wp2_with fail
      refine (same_eq (la := u) (lb := u) (r := true) (decide_eq_true rfl) rfl rfl (by omega) (by omega) Sr1.out Sr2.out).mono ?_
      rintro e u54 ⟨rfl, h⟩
      replace Sa := hid (Sa.out.below h)
      replace Sb := hid (Sb.out.below h)
      replace Sc := hid (Sc.out.below h)
      replace Smade := hid (Smade.out.below h)
      replace Sr1 := hid (Sr1.out.below h)
      replace Sr2 := hid (Sr2.out.below h)
      replace HGb := hid (HGb.out.below h HGb.out.lt)
      replace HB := hid (HB.out.trans (h.mono HB.out.size))
      clear h
      clear Sr1
      clear Sr2
      go_wp2_with fail
      refine (do_meet (la := a) (lb := b) (R := v) (Hv.out) Ia.out Ib.out Hna.out Hnb.out Sa.out Sb.out HGb).mono ?_
      rintro e u55 ⟨v9, rfl, ho, h⟩
      obtain ⟨Ar3, cr3, rfl, _, _, Sr3⟩ := ho.view
      clear ho
      replace Sr3 := hid Sr3
      replace Sa := hid (Sa.out.below h)
      replace Sb := hid (Sb.out.below h)
      replace Sc := hid (Sc.out.below h)
      replace Smade := hid (Smade.out.below h)
      replace HGb := hid (HGb.out.below h HGb.out.lt)
      replace HB := hid (HB.out.trans (h.mono HB.out.size))
      clear h
      go_wp2_with fail
      refine (do_meet (la := b) (lb := a) (R := v) (E2.out) Ib.out Ia.out Hnb.out Hna.out Sb.out Sa.out HGb).mono ?_
      rintro e u56 ⟨v9, rfl, ho, h⟩
      obtain ⟨Ar4, cr4, rfl, _, _, Sr4⟩ := ho.view
      clear ho
      replace Sr4 := hid Sr4
      replace Sa := hid (Sa.out.below h)
      replace Sb := hid (Sb.out.below h)
      replace Sc := hid (Sc.out.below h)
      replace Smade := hid (Smade.out.below h)
      replace Sr3 := hid (Sr3.out.below h)
      replace HGb := hid (HGb.out.below h HGb.out.lt)
      replace HB := hid (HB.out.trans (h.mono HB.out.size))
      clear h
      go_wp2_with fail
      refine (same_eq (la := v) (lb := v) (r := true) (decide_eq_true rfl) rfl rfl (by omega) (by omega) Sr3.out Sr4.out).mono ?_
      rintro e u57 ⟨rfl, h⟩
      replace Sa := hid (Sa.out.below h)
      replace Sb := hid (Sb.out.below h)
      replace Sc := hid (Sc.out.below h)
      replace Smade := hid (Smade.out.below h)
      replace Sr3 := hid (Sr3.out.below h)
      replace Sr4 := hid (Sr4.out.below h)
      replace HGb := hid (HGb.out.below h HGb.out.lt)
      replace HB := hid (HB.out.trans (h.mono HB.out.size))
      clear h
      clear Sr3
      clear Sr4
      go_wp2_with fail
      refine (do_union (la := a) (lb := b) (R := u) (Hu.out) Ia.out Ib.out Hna.out Hnb.out Sa.out Sb.out HGb).mono ?_
      rintro e u58 ⟨v9, rfl, ho, h⟩
      obtain ⟨Ar5, cr5, rfl, _, _, Sr5⟩ := ho.view
      clear ho
      replace Sr5 := hid Sr5
      replace Sa := hid (Sa.out.below h)
      replace Sb := hid (Sb.out.below h)
      replace Sc := hid (Sc.out.below h)
      replace Smade := hid (Smade.out.below h)
      replace HGb := hid (HGb.out.below h HGb.out.lt)
      replace HB := hid (HB.out.trans (h.mono HB.out.size))
      clear h
      go_wp2_with fail
      refine (do_union (la := u) (lb := c) (R := p) (Hp.out) Iu.out Ic.out rfl Hnc.out Sr5.out Sc.out HGb).mono ?_
      rintro e u59 ⟨v9, rfl, ho, h⟩
      obtain ⟨Ar6, cr6, rfl, _, _, Sr6⟩ := ho.view
      clear ho
      replace Sr6 := hid Sr6
      replace Sa := hid (Sa.out.below h)
      replace Sb := hid (Sb.out.below h)
      replace Sc := hid (Sc.out.below h)
      replace Smade := hid (Smade.out.below h)
      replace Sr5 := hid (Sr5.out.below h)
      replace HGb := hid (HGb.out.below h HGb.out.lt)
      replace HB := hid (HB.out.trans (h.mono HB.out.size))
      clear h
      go_wp2_with fail
      refine (do_union (la := b) (lb := c) (R := q) (Hq.out) Ib.out Ic.out Hnb.out Hnc.out Sb.out Sc.out HGb).mono ?_
      rintro e u60 ⟨v9, rfl, ho, h⟩
      obtain ⟨Ar7, cr7, rfl, _, _, Sr7⟩ := ho.view
      clear ho
      replace Sr7 := hid Sr7
      replace Sa := hid (Sa.out.below h)
      replace Sb := hid (Sb.out.below h)
      replace Sc := hid (Sc.out.below h)
      replace Smade := hid (Smade.out.below h)
      replace Sr5 := hid (Sr5.out.below h)
      replace Sr6 := hid (Sr6.out.below h)
      replace HGb := hid (HGb.out.below h HGb.out.lt)
      replace HB := hid (HB.out.trans (h.mono HB.out.size))
      clear h
      go_wp2_with fail
      refine (do_union (la := a) (lb := q) (R := p) (E3.out) Ia.out Iq.out Hna.out rfl Sa.out Sr7.out HGb).mono ?_
      rintro e u61 ⟨v9, rfl, ho, h⟩
      obtain ⟨Ar8, cr8, rfl, _, _, Sr8⟩ := ho.view
      clear ho
      replace Sr8 := hid Sr8
      replace Sa := hid (Sa.out.below h)
      replace Sb := hid (Sb.out.below h)
      replace Sc := hid (Sc.out.below h)
      replace Smade := hid (Smade.out.below h)
      replace Sr5 := hid (Sr5.out.below h)
      replace Sr6 := hid (Sr6.out.below h)
      replace Sr7 := hid (Sr7.out.below h)
      replace HGb := hid (HGb.out.below h HGb.out.lt)
      replace HB := hid (HB.out.trans (h.mono HB.out.size))
      clear h
      go_wp2_with fail
      refine (same_eq (la := p) (lb := p) (r := true) (decide_eq_true rfl) rfl rfl (by omega) (by omega) Sr6.out Sr8.out).mono ?_
      rintro e u62 ⟨rfl, h⟩
      replace Sa := hid (Sa.out.below h)
      replace Sb := hid (Sb.out.below h)
      replace Sc := hid (Sc.out.below h)
      replace Smade := hid (Smade.out.below h)
      replace Sr5 := hid (Sr5.out.below h)
      replace Sr6 := hid (Sr6.out.below h)
      replace Sr7 := hid (Sr7.out.below h)
      replace Sr8 := hid (Sr8.out.below h)
      replace HGb := hid (HGb.out.below h HGb.out.lt)
      replace HB := hid (HB.out.trans (h.mono HB.out.size))
      clear h
      clear Sr6
      clear Sr8
      clear Sr5
      clear Sr7
      go_wp2_with fail
      refine (do_meet (la := a) (lb := b) (R := v) (Hv.out) Ia.out Ib.out Hna.out Hnb.out Sa.out Sb.out HGb).mono ?_
      rintro e u63 ⟨v9, rfl, ho, h⟩
      obtain ⟨Ar9, cr9, rfl, _, _, Sr9⟩ := ho.view
      clear ho
      replace Sr9 := hid Sr9
      replace Sa := hid (Sa.out.below h)
      replace Sb := hid (Sb.out.below h)
      replace Sc := hid (Sc.out.below h)
      replace Smade := hid (Smade.out.below h)
      replace HGb := hid (HGb.out.below h HGb.out.lt)
      replace HB := hid (HB.out.trans (h.mono HB.out.size))
      clear h
      go_wp2_with fail
      refine (do_meet (la := v) (lb := c) (R := s) (Hs.out) Iv.out Ic.out rfl Hnc.out Sr9.out Sc.out HGb).mono ?_
      rintro e u64 ⟨v9, rfl, ho, h⟩
      obtain ⟨Ar10, cr10, rfl, _, _, Sr10⟩ := ho.view
      clear ho
      replace Sr10 := hid Sr10
      replace Sa := hid (Sa.out.below h)
      replace Sb := hid (Sb.out.below h)
      replace Sc := hid (Sc.out.below h)
      replace Smade := hid (Smade.out.below h)
      replace Sr9 := hid (Sr9.out.below h)
      replace HGb := hid (HGb.out.below h HGb.out.lt)
      replace HB := hid (HB.out.trans (h.mono HB.out.size))
      clear h
      go_wp2_with fail
      refine (do_meet (la := b) (lb := c) (R := t) (Ht.out) Ib.out Ic.out Hnb.out Hnc.out Sb.out Sc.out HGb).mono ?_
      rintro e u65 ⟨v9, rfl, ho, h⟩
      obtain ⟨Ar11, cr11, rfl, _, _, Sr11⟩ := ho.view
      clear ho
      replace Sr11 := hid Sr11
      replace Sa := hid (Sa.out.below h)
      replace Sb := hid (Sb.out.below h)
      replace Sc := hid (Sc.out.below h)
      replace Smade := hid (Smade.out.below h)
      replace Sr9 := hid (Sr9.out.below h)
      replace Sr10 := hid (Sr10.out.below h)
      replace HGb := hid (HGb.out.below h HGb.out.lt)
      replace HB := hid (HB.out.trans (h.mono HB.out.size))
      clear h
      go_wp2_with fail
      refine (do_meet (la := a) (lb := t) (R := s) (E4.out) Ia.out It.out Hna.out rfl Sa.out Sr11.out HGb).mono ?_
      rintro e u66 ⟨v9, rfl, ho, h⟩
      obtain ⟨Ar12, cr12, rfl, _, _, Sr12⟩ := ho.view
      clear ho
      replace Sr12 := hid Sr12
      replace Sa := hid (Sa.out.below h)
      replace Sb := hid (Sb.out.below h)
      replace Sc := hid (Sc.out.below h)
      replace Smade := hid (Smade.out.below h)
      replace Sr9 := hid (Sr9.out.below h)
      replace Sr10 := hid (Sr10.out.below h)
      replace Sr11 := hid (Sr11.out.below h)
      replace HGb := hid (HGb.out.below h HGb.out.lt)
      replace HB := hid (HB.out.trans (h.mono HB.out.size))
      clear h
      go_wp2_with fail
      refine (same_eq (la := s) (lb := s) (r := true) (decide_eq_true rfl) rfl rfl (by omega) (by omega) Sr10.out Sr12.out).mono ?_
      rintro e u67 ⟨rfl, h⟩
      replace Sa := hid (Sa.out.below h)
      replace Sb := hid (Sb.out.below h)
      replace Sc := hid (Sc.out.below h)
      replace Smade := hid (Smade.out.below h)
      replace Sr9 := hid (Sr9.out.below h)
      replace Sr10 := hid (Sr10.out.below h)
      replace Sr11 := hid (Sr11.out.below h)
      replace Sr12 := hid (Sr12.out.below h)
      replace HGb := hid (HGb.out.below h HGb.out.lt)
      replace HB := hid (HB.out.trans (h.mono HB.out.size))
      clear h
      clear Sr10
      clear Sr12
      clear Sr9
      clear Sr11
      go_wp2_with fail
      refine (do_union (la := b) (lb := c) (R := q) (Hq.out) Ib.out Ic.out Hnb.out Hnc.out Sb.out Sc.out HGb).mono ?_
      rintro e u68 ⟨v9, rfl, ho, h⟩
      obtain ⟨Ar13, cr13, rfl, _, _, Sr13⟩ := ho.view
      clear ho
      replace Sr13 := hid Sr13
      replace Sa := hid (Sa.out.below h)
      replace Sb := hid (Sb.out.below h)
      replace Sc := hid (Sc.out.below h)
      replace Smade := hid (Smade.out.below h)
      replace HGb := hid (HGb.out.below h HGb.out.lt)
      replace HB := hid (HB.out.trans (h.mono HB.out.size))
      clear h
      go_wp2_with fail
      refine (do_meet (la := a) (lb := q) (R := x) (Hx.out) Ia.out Iq.out Hna.out rfl Sa.out Sr13.out HGb).mono ?_
      rintro e u69 ⟨v9, rfl, ho, h⟩
      obtain ⟨Ar14, cr14, rfl, _, _, Sr14⟩ := ho.view
      clear ho
      replace Sr14 := hid Sr14
      replace Sa := hid (Sa.out.below h)
      replace Sb := hid (Sb.out.below h)
      replace Sc := hid (Sc.out.below h)
      replace Smade := hid (Smade.out.below h)
      replace Sr13 := hid (Sr13.out.below h)
      replace HGb := hid (HGb.out.below h HGb.out.lt)
      replace HB := hid (HB.out.trans (h.mono HB.out.size))
      clear h
      go_wp2_with fail
      refine (do_meet (la := a) (lb := b) (R := v) (Hv.out) Ia.out Ib.out Hna.out Hnb.out Sa.out Sb.out HGb).mono ?_
      rintro e u70 ⟨v9, rfl, ho, h⟩
      obtain ⟨Ar15, cr15, rfl, _, _, Sr15⟩ := ho.view
      clear ho
      replace Sr15 := hid Sr15
      replace Sa := hid (Sa.out.below h)
      replace Sb := hid (Sb.out.below h)
      replace Sc := hid (Sc.out.below h)
      replace Smade := hid (Smade.out.below h)
      replace Sr13 := hid (Sr13.out.below h)
      replace Sr14 := hid (Sr14.out.below h)
      replace HGb := hid (HGb.out.below h HGb.out.lt)
      replace HB := hid (HB.out.trans (h.mono HB.out.size))
      clear h
      go_wp2_with fail
      refine (do_meet (la := a) (lb := c) (R := y) (Hy.out) Ia.out Ic.out Hna.out Hnc.out Sa.out Sc.out HGb).mono ?_
      rintro e u71 ⟨v9, rfl, ho, h⟩
      obtain ⟨Ar16, cr16, rfl, _, _, Sr16⟩ := ho.view
      clear ho
      replace Sr16 := hid Sr16
      replace Sa := hid (Sa.out.below h)
      replace Sb := hid (Sb.out.below h)
      replace Sc := hid (Sc.out.below h)
      replace Smade := hid (Smade.out.below h)
      replace Sr13 := hid (Sr13.out.below h)
      replace Sr14 := hid (Sr14.out.below h)
      replace Sr15 := hid (Sr15.out.below h)
      replace HGb := hid (HGb.out.below h HGb.out.lt)
      replace HB := hid (HB.out.trans (h.mono HB.out.size))
      clear h
      go_wp2_with fail
      refine (do_union (la := v) (lb := y) (R := x) (E5.out) Iv.out Iy.out rfl rfl Sr15.out Sr16.out HGb).mono ?_
      rintro e u72 ⟨v9, rfl, ho, h⟩
      obtain ⟨Ar17, cr17, rfl, _, _, Sr17⟩ := ho.view
      clear ho
      replace Sr17 := hid Sr17
      replace Sa := hid (Sa.out.below h)
      replace Sb := hid (Sb.out.below h)
      replace Sc := hid (Sc.out.below h)
      replace Smade := hid (Smade.out.below h)
      replace Sr13 := hid (Sr13.out.below h)
      replace Sr14 := hid (Sr14.out.below h)
      replace Sr15 := hid (Sr15.out.below h)
      replace Sr16 := hid (Sr16.out.below h)
      replace HGb := hid (HGb.out.below h HGb.out.lt)
      replace HB := hid (HB.out.trans (h.mono HB.out.size))
      clear h
      go_wp2_with fail
      refine (same_eq (la := x) (lb := x) (r := true) (decide_eq_true rfl) rfl rfl (by omega) (by omega) Sr14.out Sr17.out).mono ?_
      rintro e u73 ⟨rfl, h⟩
      replace Sa := hid (Sa.out.below h)
      replace Sb := hid (Sb.out.below h)
      replace Sc := hid (Sc.out.below h)
      replace Smade := hid (Smade.out.below h)
      replace Sr13 := hid (Sr13.out.below h)
      replace Sr14 := hid (Sr14.out.below h)
      replace Sr15 := hid (Sr15.out.below h)
      replace Sr16 := hid (Sr16.out.below h)
      replace Sr17 := hid (Sr17.out.below h)
      replace HGb := hid (HGb.out.below h HGb.out.lt)
      replace HB := hid (HB.out.trans (h.mono HB.out.size))
      clear h
      clear Sr14
      clear Sr17
      clear Sr13
      clear Sr15
      clear Sr16
      go_wp2_with fail
      refine (do_meet (la := b) (lb := c) (R := t) (Ht.out) Ib.out Ic.out Hnb.out Hnc.out Sb.out Sc.out HGb).mono ?_
      rintro e u74 ⟨v9, rfl, ho, h⟩
      obtain ⟨Ar18, cr18, rfl, _, _, Sr18⟩ := ho.view
      clear ho
      replace Sr18 := hid Sr18
      replace Sa := hid (Sa.out.below h)
      replace Sb := hid (Sb.out.below h)
      replace Sc := hid (Sc.out.below h)
      replace Smade := hid (Smade.out.below h)
      replace HGb := hid (HGb.out.below h HGb.out.lt)
      replace HB := hid (HB.out.trans (h.mono HB.out.size))
      clear h
      go_wp2_with fail
      refine (do_union (la := a) (lb := t) (R := z) (Hz.out) Ia.out It.out Hna.out rfl Sa.out Sr18.out HGb).mono ?_
      rintro e u75 ⟨v9, rfl, ho, h⟩
      obtain ⟨Ar19, cr19, rfl, _, _, Sr19⟩ := ho.view
      clear ho
      replace Sr19 := hid Sr19
      replace Sa := hid (Sa.out.below h)
      replace Sb := hid (Sb.out.below h)
      replace Sc := hid (Sc.out.below h)
      replace Smade := hid (Smade.out.below h)
      replace Sr18 := hid (Sr18.out.below h)
      replace HGb := hid (HGb.out.below h HGb.out.lt)
      replace HB := hid (HB.out.trans (h.mono HB.out.size))
      clear h
      go_wp2_with fail
      refine (do_union (la := a) (lb := b) (R := u) (Hu.out) Ia.out Ib.out Hna.out Hnb.out Sa.out Sb.out HGb).mono ?_
      rintro e u76 ⟨v9, rfl, ho, h⟩
      obtain ⟨Ar20, cr20, rfl, _, _, Sr20⟩ := ho.view
      clear ho
      replace Sr20 := hid Sr20
      replace Sa := hid (Sa.out.below h)
      replace Sb := hid (Sb.out.below h)
      replace Sc := hid (Sc.out.below h)
      replace Smade := hid (Smade.out.below h)
      replace Sr18 := hid (Sr18.out.below h)
      replace Sr19 := hid (Sr19.out.below h)
      replace HGb := hid (HGb.out.below h HGb.out.lt)
      replace HB := hid (HB.out.trans (h.mono HB.out.size))
      clear h
      go_wp2_with fail
      refine (do_union (la := a) (lb := c) (R := d) (Hd.out) Ia.out Ic.out Hna.out Hnc.out Sa.out Sc.out HGb).mono ?_
      rintro e u77 ⟨v9, rfl, ho, h⟩
      obtain ⟨Ar21, cr21, rfl, _, _, Sr21⟩ := ho.view
      clear ho
      replace Sr21 := hid Sr21
      replace Sa := hid (Sa.out.below h)
      replace Sb := hid (Sb.out.below h)
      replace Sc := hid (Sc.out.below h)
      replace Smade := hid (Smade.out.below h)
      replace Sr18 := hid (Sr18.out.below h)
      replace Sr19 := hid (Sr19.out.below h)
      replace Sr20 := hid (Sr20.out.below h)
      replace HGb := hid (HGb.out.below h HGb.out.lt)
      replace HB := hid (HB.out.trans (h.mono HB.out.size))
      clear h
      go_wp2_with fail
      refine (do_meet (la := u) (lb := d) (R := z) (E6.out) Iu.out Id.out rfl rfl Sr20.out Sr21.out HGb).mono ?_
      rintro e u78 ⟨v9, rfl, ho, h⟩
      obtain ⟨Ar22, cr22, rfl, _, _, Sr22⟩ := ho.view
      clear ho
      replace Sr22 := hid Sr22
      replace Sa := hid (Sa.out.below h)
      replace Sb := hid (Sb.out.below h)
      replace Sc := hid (Sc.out.below h)
      replace Smade := hid (Smade.out.below h)
      replace Sr18 := hid (Sr18.out.below h)
      replace Sr19 := hid (Sr19.out.below h)
      replace Sr20 := hid (Sr20.out.below h)
      replace Sr21 := hid (Sr21.out.below h)
      replace HGb := hid (HGb.out.below h HGb.out.lt)
      replace HB := hid (HB.out.trans (h.mono HB.out.size))
      clear h
      go_wp2_with fail
      refine (same_eq (la := z) (lb := z) (r := true) (decide_eq_true rfl) rfl rfl (by omega) (by omega) Sr19.out Sr22.out).mono ?_
      rintro e u79 ⟨rfl, h⟩
      replace Sa := hid (Sa.out.below h)
      replace Sb := hid (Sb.out.below h)
      replace Sc := hid (Sc.out.below h)
      replace Smade := hid (Smade.out.below h)
      replace Sr18 := hid (Sr18.out.below h)
      replace Sr19 := hid (Sr19.out.below h)
      replace Sr20 := hid (Sr20.out.below h)
      replace Sr21 := hid (Sr21.out.below h)
      replace Sr22 := hid (Sr22.out.below h)
      replace HGb := hid (HGb.out.below h HGb.out.lt)
      replace HB := hid (HB.out.trans (h.mono HB.out.size))
      clear h
      clear Sr19
      clear Sr22
      clear Sr18
      clear Sr20
      clear Sr21
      go_wp2_with fail
      refine (do_minus (la := a) (lb := b) (R := m) (Hm.out) Ia.out Ib.out Hna.out Hnb.out Sa.out Sb.out HGb).mono ?_
      rintro e u80 ⟨v9, rfl, ho, h⟩
      obtain ⟨Ar23, cr23, rfl, _, _, Sr23⟩ := ho.view
      clear ho
      replace Sr23 := hid Sr23
      replace Sa := hid (Sa.out.below h)
      replace Sb := hid (Sb.out.below h)
      replace Sc := hid (Sc.out.below h)
      replace Smade := hid (Smade.out.below h)
      replace HGb := hid (HGb.out.below h HGb.out.lt)
      replace HB := hid (HB.out.trans (h.mono HB.out.size))
      clear h
      go_wp2_with fail
      refine (do_meet (la := a) (lb := b) (R := v) (Hv.out) Ia.out Ib.out Hna.out Hnb.out Sa.out Sb.out HGb).mono ?_
      rintro e u81 ⟨v9, rfl, ho, h⟩
      obtain ⟨Ar24, cr24, rfl, _, _, Sr24⟩ := ho.view
      clear ho
      replace Sr24 := hid Sr24
      replace Sa := hid (Sa.out.below h)
      replace Sb := hid (Sb.out.below h)
      replace Sc := hid (Sc.out.below h)
      replace Smade := hid (Smade.out.below h)
      replace Sr23 := hid (Sr23.out.below h)
      replace HGb := hid (HGb.out.below h HGb.out.lt)
      replace HB := hid (HB.out.trans (h.mono HB.out.size))
      clear h
      go_wp2_with fail
      refine (do_minus (la := a) (lb := v) (R := m) (E7.out) Ia.out Iv.out Hna.out rfl Sa.out Sr24.out HGb).mono ?_
      rintro e u82 ⟨v9, rfl, ho, h⟩
      obtain ⟨Ar25, cr25, rfl, _, _, Sr25⟩ := ho.view
      clear ho
      replace Sr25 := hid Sr25
      replace Sa := hid (Sa.out.below h)
      replace Sb := hid (Sb.out.below h)
      replace Sc := hid (Sc.out.below h)
      replace Smade := hid (Smade.out.below h)
      replace Sr23 := hid (Sr23.out.below h)
      replace Sr24 := hid (Sr24.out.below h)
      replace HGb := hid (HGb.out.below h HGb.out.lt)
      replace HB := hid (HB.out.trans (h.mono HB.out.size))
      clear h
      go_wp2_with fail
      refine (same_eq (la := m) (lb := m) (r := true) (decide_eq_true rfl) rfl rfl (by omega) (by omega) Sr23.out Sr25.out).mono ?_
      rintro e u83 ⟨rfl, h⟩
      replace Sa := hid (Sa.out.below h)
      replace Sb := hid (Sb.out.below h)
      replace Sc := hid (Sc.out.below h)
      replace Smade := hid (Smade.out.below h)
      replace Sr23 := hid (Sr23.out.below h)
      replace Sr24 := hid (Sr24.out.below h)
      replace Sr25 := hid (Sr25.out.below h)
      replace HGb := hid (HGb.out.below h HGb.out.lt)
      replace HB := hid (HB.out.trans (h.mono HB.out.size))
      clear h
      clear Sr23
      clear Sr25
      clear Sr24
      go_wp2_with fail
      refine (do_union (la := a) (lb := b) (R := u) (Hu.out) Ia.out Ib.out Hna.out Hnb.out Sa.out Sb.out HGb).mono ?_
      rintro e u84 ⟨v9, rfl, ho, h⟩
      obtain ⟨Ar26, cr26, rfl, _, _, Sr26⟩ := ho.view
      clear ho
      replace Sr26 := hid Sr26
      replace Sa := hid (Sa.out.below h)
      replace Sb := hid (Sb.out.below h)
      replace Sc := hid (Sc.out.below h)
      replace Smade := hid (Smade.out.below h)
      replace HGb := hid (HGb.out.below h HGb.out.lt)
      replace HB := hid (HB.out.trans (h.mono HB.out.size))
      clear h
      go_wp2_with fail
      refine (same_eq (la := u) (lb := u) (r := true) (decide_eq_true rfl) rfl rfl (by omega) (by omega) Smade.out Sr26.out).mono ?_
      rintro e u85 ⟨rfl, h⟩
      replace Sa := hid (Sa.out.below h)
      replace Sb := hid (Sb.out.below h)
      replace Sc := hid (Sc.out.below h)
      replace Smade := hid (Smade.out.below h)
      replace Sr26 := hid (Sr26.out.below h)
      replace HGb := hid (HGb.out.below h HGb.out.lt)
      replace HB := hid (HB.out.trans (h.mono HB.out.size))
      clear h
      have c9 := (HGb.out.cell 0).trans (b := some (Value.int .i64 0)) rfl
      go_wp2
      go_ret
      exact ⟨rfl, HB.out⟩
end Go.Proofs.Ytpafnakepgjmnaa
