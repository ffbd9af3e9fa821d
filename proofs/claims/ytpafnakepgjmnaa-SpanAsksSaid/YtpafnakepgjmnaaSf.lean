/- Before, Has, Bridge. -/
import Derived.Test.YtpafnakepgjmnaaSe
namespace Go.Proofs.Ytpafnakepgjmnaa
open Go.RowKit Go.Lib Go.Shelf

theorem SpH.take {w : World} {A : Option Addr} {l : List Sp} (h : SpH w A l) {k : Nat} (hk : k ≤ l.length) : SpH w A (l.take k) := fun hl => by
  obtain ⟨b, off, e, hb, hc⟩ := h (by intro g; subst g; simp at hl)
  refine ⟨b, off, e, hb, fun i hi => ?_⟩
  have hi' : i < k := by simp at hi; omega
  have := hc i (by omega)
  have e1 : fr (l.take k) i = fr l i := by unfold fr; rw [List.getD_eq_getElem?_getD, List.getD_eq_getElem?_getD, List.getElem?_take, if_pos hi']
  have e2 : tt (l.take k) i = tt l i := by unfold tt; rw [List.getD_eq_getElem?_getD, List.getD_eq_getElem?_getD, List.getElem?_take, if_pos hi']
  rw [e1, e2]; exact this

set_option maxRecDepth 100000 in
set_option maxHeartbeats 2000000 in
theorem before_yes (l : List Sp) (A : Option Addr) (n c : Nat) (d : Int) (w : World) (hn : Hid (l.length = n)) (hnc : n ≤ c) (hs : Hid (IsSet l)) (hA : SpH w A l) :
    Calls Try.prog 29 #[.slice A n c, .int .i64 d] w fun e w' => e = .returned (.int .i64 (befL l d)) ∧ Below w.heap.size w w' := by
  have hm : n ≤ 65536 := by have := hs.out.len_bd; rw [hn.out] at this; exact this
  have HV := hid (validB_true.2 hs.out)
  have HA := hid hA
  obtain ⟨f1, f2, f3⟩ := findK_of hs.out d
  have hbef := hs.out.bef_at f1 f2 f3
  have hsum := (hs.out.take (findK l d)).sum_bd
  have HF := hid (fun w (h : SpH w A l) => find_any l A n c d w hn hs h)
  have HC := hid (fun w (h : SpH w A l) => count_any (l.take (findK l d)) A (findK l d) c w (show (l.take (findK l d)).length = findK l d by simp; omega) (hs.out.take _) (h.take f1))
  rw [hn.out] at f1 f3 hbef
  generalize findK l d = k at *
  obtain ⟨S, hS⟩ : ∃ S, lenSum (l.take k) = S := ⟨_, rfl⟩
  rw [hS] at hbef HC hsum
  obtain ⟨s0, s1⟩ := hsum
  have HBE := hid hbef
  clear hA f2 hS hbef
  go_enter Try.func29, Try.ntmps29
  go_wp2_with fail
  refine (valid_any l A n c _ hn (by omega) HA.out).mono ?_
  rintro e w1 ⟨rfl, h1⟩
  rw [HV.out]
  have HA1 := hid (HA.out.below h1)
  go_wp2_with fail
  refine (HF.out _ HA1.out).mono ?_
  rintro e w2 ⟨rfl, h2⟩
  have hb2 := h1.trans (h2.mono h1.size)
  have HA2 := hid (HA1.out.below h2)
  clear HA1 h1 h2
  go_wp2_with fail
  refine (HC.out _ HA2.out).mono ?_
  rintro e w3 ⟨rfl, h3⟩
  have hb3 := hb2.trans (h3.mono hb2.size)
  have HA3 := HA2.out.below h3
  clear HA2 h3 hb2
  by_cases hlt : k < n
  · obtain ⟨b, off, rfl, hbl, hc⟩ := HA3.at_ hn.out (by omega)
    have c0 := (hc k hlt).1
    have hat := hs.out.at_ (i := k) (by have := hn.out; omega)
    have hdt := f3 hlt
    obtain ⟨x, hx⟩ : ∃ x, fr l k = x := ⟨_, rfl⟩
    have HX := hid hx
    obtain ⟨a1, a2, a3, _⟩ := hat
    rw [hx] at c0 a1 a2
    have d6 : d ≤ 65536 := by omega
    have x6 : x ≤ 65536 := by omega
    clear f3 hc hx HA3 a2 a3 hdt
    have HE : Hid (befL l d = S + (if k < n ∧ x < d then d - x else 0)) := by show _ = _; rw [HBE.out, HX.out]
    by_cases hxd : x < d
    · have HE2 : Hid (befL l d = S + (d - x)) := by show _ = _; rw [HE.out, if_pos ⟨hlt, hxd⟩]
      go_wp2
      go_ret
      exact ⟨by rw [HE2.out]; rfl, hb3⟩
    · have HE2 : Hid (befL l d = S) := by show _ = _; rw [HE.out, if_neg (fun g => hxd g.2)]; omega
      go_wp2
      go_ret
      exact ⟨by rw [HE2.out]; rfl, hb3⟩
  · have HE2 : Hid (befL l d = S) := by show _ = _; rw [HBE.out, if_neg (fun g => hlt g.1)]; omega
    clear f3
    go_wp2
    go_ret
    exact ⟨by rw [HE2.out]; rfl, hb3⟩
set_option maxRecDepth 100000 in
set_option maxHeartbeats 2000000 in
theorem before_no (l : List Sp) (A : Option Addr) (n c : Nat) (d : Int) (w : World) (hn : Hid (l.length = n)) (hm : n ≤ 4611686018427387904) (hs : ¬ IsSet l) (hA : SpH w A l) :
    Calls Try.prog 29 #[.slice A n c, .int .i64 d] w fun e w' => e = .returned (.int .i64 0) ∧ Below w.heap.size w w' := by
  have HV := hid (validB_false.2 hs)
  have HA := hid hA
  clear hA hs
  go_enter Try.func29, Try.ntmps29
  go_wp2_with fail
  refine (valid_any l A n c _ hn (by omega) HA.out).mono ?_
  rintro e w1 ⟨rfl, h1⟩
  rw [HV.out]
  go_wp2
  go_ret
  exact ⟨rfl, h1⟩
def befV (l : List Sp) (d : Int) : Int := if IsSet l then befL l d else 0
theorem before_any (l : List Sp) (A : Option Addr) (n c : Nat) (d : Int) (w : World) (hn : Hid (l.length = n)) (hnc : n ≤ c) (hm : n ≤ 4611686018427387904) (hA : SpH w A l) :
    Calls Try.prog 29 #[.slice A n c, .int .i64 d] w fun e w' => e = .returned (.int .i64 (befV l d)) ∧ Below w.heap.size w w' := by
  by_cases hs : IsSet l
  · unfold befV; rw [if_pos hs]; exact before_yes l A n c d w hn hnc hs hA
  · unfold befV; rw [if_neg hs]; exact before_no l A n c d w hn hm hs hA

/-- The day is one of the span that find finds, or of none. -/
theorem IsSet.has_at {l : List Sp} (h : IsSet l) (d : Int) : memB l d = (decide (findK l d < l.length) && decide (fr l (findK l d) ≤ d)) := by
  obtain ⟨f1, f2, f3⟩ := findK_of h d
  rw [Bool.eq_iff_iff, Bool.and_eq_true, decide_eq_true_iff, decide_eq_true_iff, memB_at]
  constructor
  · rintro ⟨i, hi, h1, h2⟩
    by_cases g1 : i < findK l d
    · have := f2 i g1; omega
    by_cases g2 : i = findK l d
    · subst g2; exact ⟨hi, h1⟩
    · have g3 : findK l d < i := by omega
      have hk : findK l d < l.length := by omega
      have a := f3 hk
      have m := h.tt_mono (a := findK l d) (b := i - 1) (by omega) (by omega)
      have b := (h.at_ hi).2.2.2 (by omega)
      omega
  · rintro ⟨hi, h1⟩
    exact ⟨_, hi, h1, f3 hi⟩

set_option maxRecDepth 100000 in
set_option maxHeartbeats 2000000 in
theorem has_yes (l : List Sp) (A : Option Addr) (n c : Nat) (d : Int) (w : World) (hn : Hid (l.length = n)) (hs : Hid (IsSet l)) (hA : SpH w A l) :
    Calls Try.prog 21 #[.slice A n c, .int .i64 d] w fun e w' => e = .returned (.bool (memB l d)) ∧ Below w.heap.size w w' := by
  have hm : n ≤ 65536 := by have := hs.out.len_bd; rw [hn.out] at this; exact this
  have HV := hid (validB_true.2 hs.out)
  have HA := hid hA
  have hh := hs.out.has_at d
  obtain ⟨f1, f2, f3⟩ := findK_of hs.out d
  have HF := hid (fun w (h : SpH w A l) => find_any l A n c d w hn hs h)
  rw [hn.out] at f1 f3 hh
  generalize findK l d = k at *
  have HH := hid hh
  clear hA f2 hh f3
  go_enter Try.func21, Try.ntmps21
  go_wp2_with fail
  refine (valid_any l A n c _ hn (by omega) HA.out).mono ?_
  rintro e w1 ⟨rfl, h1⟩
  rw [HV.out]
  have HA1 := hid (HA.out.below h1)
  go_wp2_with fail
  refine (HF.out _ HA1.out).mono ?_
  rintro e w2 ⟨rfl, h2⟩
  have hb2 := h1.trans (h2.mono h1.size)
  have HA2 := HA1.out.below h2
  clear HA1 h1 h2
  by_cases hlt : k < n
  · obtain ⟨b, off, rfl, hbl, hc⟩ := HA2.at_ hn.out (by omega)
    have c0 := (hc k hlt).1
    obtain ⟨x, hx⟩ : ∃ x, fr l k = x := ⟨_, rfl⟩
    rw [hx] at c0
    have HX : Hid (memB l d = decide (x ≤ d)) := by show _ = _; rw [HH.out, hx, decide_eq_true hlt]; rfl
    clear hc hx HA2
    go_wp2
    go_ret
    exact ⟨by rw [HX.out]; rfl, hb2⟩
  · have HX : Hid (memB l d = false) := by show _ = _; rw [HH.out, decide_eq_false hlt]; rfl
    go_wp2
    go_ret
    exact ⟨by rw [HX.out]; rfl, hb2⟩
set_option maxRecDepth 100000 in
set_option maxHeartbeats 2000000 in
theorem has_no (l : List Sp) (A : Option Addr) (n c : Nat) (d : Int) (w : World) (hn : Hid (l.length = n)) (hm : n ≤ 4611686018427387904) (hs : ¬ IsSet l) (hA : SpH w A l) :
    Calls Try.prog 21 #[.slice A n c, .int .i64 d] w fun e w' => e = .returned (.bool false) ∧ Below w.heap.size w w' := by
  have HV := hid (validB_false.2 hs)
  have HA := hid hA
  clear hA hs
  go_enter Try.func21, Try.ntmps21
  go_wp2_with fail
  refine (valid_any l A n c _ hn (by omega) HA.out).mono ?_
  rintro e w1 ⟨rfl, h1⟩
  rw [HV.out]
  go_wp2
  go_ret
  exact ⟨rfl, h1⟩
def hasV (l : List Sp) (d : Int) : Bool := if IsSet l then memB l d else false
theorem has_any (l : List Sp) (A : Option Addr) (n c : Nat) (d : Int) (w : World) (hn : Hid (l.length = n)) (hm : n ≤ 4611686018427387904) (hA : SpH w A l) :
    Calls Try.prog 21 #[.slice A n c, .int .i64 d] w fun e w' => e = .returned (.bool (hasV l d)) ∧ Below w.heap.size w w' := by
  by_cases hs : IsSet l
  · unfold hasV; rw [if_pos hs]; exact has_yes l A n c d w hn hs hA
  · unfold hasV; rw [if_neg hs]; exact has_no l A n c d w hn hm hs hA

/-- The call returns a slice of its own that holds l, and an error's number. -/
def RetSpE (w : World) (l : List Sp) (er : Int) (e : Ending) (w' : World) : Prop := ∃ v, e = .returned (.tuple #[v, .int .i64 er]) ∧ OwnSp w' w.heap.size v l ∧ Below w.heap.size w w'

set_option maxRecDepth 100000 in
set_option maxHeartbeats 2000000 in
theorem bridge_yes (l : List Sp) (A : Option Addr) (n c : Nat) (d : Int) (w : World) (hn : Hid (l.length = n)) (hs : Hid (IsSet l)) (hd : 0 ≤ d) (hA : SpH w A l) :
    Calls Try.prog 30 #[.slice A n c, .int .i64 d] w (RetSpE w (mergeL d l) 0) := by
  have hm : n ≤ 65536 := by have := hs.out.len_bd; rw [hn.out] at this; exact this
  have HV := hid (validB_true.2 hs.out)
  have HA := hid hA
  clear hA
  go_enter Try.func30, Try.ntmps30
  go_wp2_with fail
  refine (valid_any l A n c _ hn (by omega) HA.out).mono ?_
  rintro e w1 ⟨rfl, h1⟩
  rw [HV.out]
  go_wp2_with fail
  refine (merge_any l A n c d _ hn (by omega) hs.out.vd hd (HA.out.below h1)).mono ?_
  rintro e w2 ⟨v, rfl, ho, h2⟩
  have HO := hid ho
  obtain ⟨A2, c2, rfl, _, _, _⟩ := ho.view
  clear ho
  go_wp2
  go_ret2
  exact ⟨_, rfl, HO.out.mono h1.size, h1.trans (h2.mono h1.size)⟩
set_option maxRecDepth 100000 in
set_option maxHeartbeats 2000000 in
theorem bridge_no (l : List Sp) (A : Option Addr) (n c : Nat) (d : Int) (w : World) (hn : Hid (l.length = n)) (hm : n ≤ 4611686018427387904) (hs : ¬ (IsSet l ∧ 0 ≤ d)) (hA : SpH w A l) :
    Calls Try.prog 30 #[.slice A n c, .int .i64 d] w (RetSpE w [] 2) := by
  have HA := hid hA
  clear hA
  cases hv : validB l
  · have HV := hid hv
    clear hv hs
    go_enter Try.func30, Try.ntmps30
    go_wp2_with fail
    refine (valid_any l A n c _ hn (by omega) HA.out).mono ?_
    rintro e w1 ⟨rfl, h1⟩
    rw [HV.out]
    go_wp2
    go_ret2
    exact ⟨_, rfl, ownSp_nil _ _, h1⟩
  · have hd : d < 0 := by
      by_cases g : 0 ≤ d
      · exact absurd ⟨validB_true.1 hv, g⟩ hs
      · omega
    have HV := hid hv
    clear hv hs
    go_enter Try.func30, Try.ntmps30
    go_wp2_with fail
    refine (valid_any l A n c _ hn (by omega) HA.out).mono ?_
    rintro e w1 ⟨rfl, h1⟩
    rw [HV.out]
    go_wp2
    go_ret2
    exact ⟨_, rfl, ownSp_nil _ _, h1⟩
end Go.Proofs.Ytpafnakepgjmnaa
