/- Arguments that are not sets; Union, Meet, Minus. -/
import Derived.Test.YtpafnakepgjmnaaSr
namespace Go.Proofs.Ytpafnakepgjmnaa
open Go.RowKit Go.Lib Go.Shelf

set_option maxRecDepth 100000 in
set_option maxHeartbeats 2000000 in
theorem comb_no (f : Nat) (la lb : List Sp) (A B : Option Addr) (na ca nb cb : Nat) (w : World) (hna : Hid (la.length = na)) (hnb : Hid (lb.length = nb)) (hma : na ≤ 4611686018427387904) (hmb : nb ≤ 4611686018427387904) (hs : ¬ (IsSet la ∧ IsSet lb)) (hA : SpH w A la) (hB : SpH w B lb) :
    Calls Try.prog 42 #[.slice A na ca, .slice B nb cb, .func (.func f) #[] #[]] w (RetSpE w [] 2) := by
  have HA := hid hA
  have HB := hid hB
  clear hA hB
  have b0 : Below w.heap.size w (w.alloc (.cells #[.func (.func f) #[] #[]] 60)) := (Below.refl _ w).alloc (Nat.le_refl _) _
  cases hva : validB la
  · have HV := hid hva
    clear hva hs
    go_enter Try.func42, Try.ntmps42
    go_wp2_with fail
    refine (valid_any la A na ca _ hna (by omega) (HA.out.below b0)).mono ?_
    rintro e w1 ⟨rfl, h1⟩
    rw [HV.out]
    have b1 := below_new h1
    clear h1
    go_wp2
    go_ret2
    exact ⟨_, rfl, ownSp_nil _ _, b1⟩
  · have hvb : validB lb = false := validB_false.2 fun g => hs ⟨validB_true.1 hva, g⟩
    have HVa := hid hva
    have HVb := hid hvb
    clear hva hs hvb
    go_enter Try.func42, Try.ntmps42
    go_wp2_with fail
    refine (valid_any la A na ca _ hna (by omega) (HA.out.below b0)).mono ?_
    rintro e w1 ⟨rfl, h1⟩
    rw [HVa.out]
    have b1 := below_new h1
    clear h1
    go_wp2_with fail
    refine (valid_any lb B nb cb _ hnb (by omega) (HB.out.below b1)).mono ?_
    rintro e w2 ⟨rfl, h2⟩
    rw [HVb.out]
    have b2 := b1.trans (h2.mono b1.size)
    clear h2 b1
    go_wp2
    go_ret2
    exact ⟨_, rfl, ownSp_nil _ _, b2⟩

set_option maxRecDepth 100000 in
set_option maxHeartbeats 2000000 in
theorem within_no (la lb : List Sp) (A B : Option Addr) (na ca nb cb : Nat) (w : World) (hna : Hid (la.length = na)) (hnb : Hid (lb.length = nb)) (hma : na ≤ 4611686018427387904) (hmb : nb ≤ 4611686018427387904) (hs : ¬ (IsSet la ∧ IsSet lb)) (hA : SpH w A la) (hB : SpH w B lb) :
    Calls Try.prog 23 #[.slice A na ca, .slice B nb cb] w fun e w' => e = .returned (.bool false) ∧ Below w.heap.size w w' := by
  have HA := hid hA
  have HB := hid hB
  clear hA hB
  have b0 : Below w.heap.size w (w.alloc (.cells #[.bool false] 4)) := (Below.refl _ w).alloc (Nat.le_refl _) _
  cases hva : validB la
  · have HV := hid hva
    clear hva hs
    go_enter Try.func23, Try.ntmps23
    go_wp2_with fail
    refine (valid_any la A na ca _ hna (by omega) (HA.out.below b0)).mono ?_
    rintro e w1 ⟨rfl, h1⟩
    rw [HV.out]
    have k1 := (Blk.new w 4 #[.bool false]).below h1 (by simp)
    have b1 := below_new h1
    have c1 := (k1.cell 0).trans (b := some (Value.bool false)) rfl
    have f1 := k1.frozen 0
    have KS := hid ((k1.set_ 0 (.bool false)).cell 0)
    clear h1 k1
    go_wp2
    exact bodyPost_ret (v := .bool false) (by simp [results, Try.results23, go_sem, KS.out]) rfl ⟨rfl, b1.setCell (p := ⟨w.heap.size, 0, none⟩) (Nat.le_refl _) _⟩
  · have hvb : validB lb = false := validB_false.2 fun g => hs ⟨validB_true.1 hva, g⟩
    have HVa := hid hva
    have HVb := hid hvb
    clear hva hs hvb
    go_enter Try.func23, Try.ntmps23
    go_wp2_with fail
    refine (valid_any la A na ca _ hna (by omega) (HA.out.below b0)).mono ?_
    rintro e w1 ⟨rfl, h1⟩
    rw [HVa.out]
    have k1 := (Blk.new w 4 #[.bool false]).below h1 (by simp)
    have b1 := below_new h1
    clear h1
    go_wp2_with fail
    refine (valid_any lb B nb cb _ hnb (by omega) (HB.out.below b1)).mono ?_
    rintro e w2 ⟨rfl, h2⟩
    rw [HVb.out]
    have k2 := k1.below h2 k1.lt
    have b2 := b1.trans (h2.mono b1.size)
    have c1 := (k2.cell 0).trans (b := some (Value.bool false)) rfl
    have f1 := k2.frozen 0
    have KS := hid ((k2.set_ 0 (.bool false)).cell 0)
    clear h2 b1 k1 k2
    go_wp2
    exact bodyPost_ret (v := .bool false) (by simp [results, Try.results23, go_sem, KS.out]) rfl ⟨rfl, b2.setCell (p := ⟨w.heap.size, 0, none⟩) (Nat.le_refl _) _⟩

def withinV (la lb : List Sp) : Bool := if IsSet la ∧ IsSet lb then withinB la lb else false
theorem within_any (la lb : List Sp) (A B : Option Addr) (na ca nb cb : Nat) (w : World) (hna : Hid (la.length = na)) (hnb : Hid (lb.length = nb)) (hma : na ≤ 4611686018427387904) (hmb : nb ≤ 4611686018427387904) (hA : SpH w A la) (hB : SpH w B lb) :
    Calls Try.prog 23 #[.slice A na ca, .slice B nb cb] w fun e w' => e = .returned (.bool (withinV la lb)) ∧ Below w.heap.size w w' := by
  by_cases hs : IsSet la ∧ IsSet lb
  · unfold withinV; rw [if_pos hs]; exact within_yes la lb A B na ca nb cb w hna hnb hs.1 hs.2 hA hB
  · unfold withinV; rw [if_neg hs]; exact within_no la lb A B na ca nb cb w hna hnb hma hmb hs hA hB

/-- What a combination of two slices returns. -/
def combV (P : Bool → Bool → Bool) (la lb : List Sp) : List Sp := if IsSet la ∧ IsSet lb then combL P la lb else []
def combE (la lb : List Sp) : Int := if IsSet la ∧ IsSet lb then 0 else 2
theorem comb_any (f : Nat) (P : Bool → Bool → Bool) (hP : P false false = false) (hf : ∀ x y W, Calls Try.prog f #[.agg #[.bool x, .bool y]] W fun e w' => e = .returned (.bool (P x y)) ∧ Below W.heap.size W w')
    (eg : ∀ args w, (callFunc f args).run Try.prog w = .ok (.enter f args) w)
    (la lb : List Sp) (A B : Option Addr) (na ca nb cb : Nat) (w : World) (hna : Hid (la.length = na)) (hnb : Hid (lb.length = nb)) (hma : na ≤ 4611686018427387904) (hmb : nb ≤ 4611686018427387904) (hA : SpH w A la) (hB : SpH w B lb) :
    Calls Try.prog 42 #[.slice A na ca, .slice B nb cb, .func (.func f) #[] #[]] w (RetSpE w (combV P la lb) (combE la lb)) := by
  by_cases hs : IsSet la ∧ IsSet lb
  · unfold combV combE; rw [if_pos hs, if_pos hs]; exact comb_yes f P hP hf eg la lb A B na ca nb cb w hna hnb hs.1 hs.2 hA hB
  · unfold combV combE; rw [if_neg hs, if_neg hs]; exact comb_no f la lb A B na ca nb cb w hna hnb hma hmb hs hA hB

def orB (x y : Bool) : Bool := x || y
def andB (x y : Bool) : Bool := x && y
def butB (x y : Bool) : Bool := x && !y

set_option maxRecDepth 100000 in
set_option maxHeartbeats 2000000 in
theorem union_any (la lb : List Sp) (A B : Option Addr) (na ca nb cb : Nat) (w : World) (hna : Hid (la.length = na)) (hnb : Hid (lb.length = nb)) (hma : na ≤ 4611686018427387904) (hmb : nb ≤ 4611686018427387904) (hA : SpH w A la) (hB : SpH w B lb) :
    Calls Try.prog 16 #[.slice A na ca, .slice B nb cb] w (RetSpE w (combV orB la lb) (combE la lb)) := by
  have HC := hid (comb_any 43 orB rfl (fun x y W => union_pred x y W) (enters_of Try.func43 (by kernel_rfl) rfl) la lb A B na ca nb cb w hna hnb hma hmb hA hB)
  generalize combV orB la lb = R at *
  generalize combE la lb = er at *
  clear hA hB
  go_enter Try.func16, Try.ntmps16
  go_wp2_with fail
  refine HC.out.mono ?_
  rintro e w1 ⟨v, rfl, ho, hb⟩
  have HO := hid ho
  obtain ⟨A1, c1, rfl, _, _, _⟩ := ho.view
  clear ho
  go_wp2
  go_ret2
  exact ⟨_, rfl, HO.out, hb⟩

set_option maxRecDepth 100000 in
set_option maxHeartbeats 2000000 in
theorem meet_any (la lb : List Sp) (A B : Option Addr) (na ca nb cb : Nat) (w : World) (hna : Hid (la.length = na)) (hnb : Hid (lb.length = nb)) (hma : na ≤ 4611686018427387904) (hmb : nb ≤ 4611686018427387904) (hA : SpH w A la) (hB : SpH w B lb) :
    Calls Try.prog 17 #[.slice A na ca, .slice B nb cb] w (RetSpE w (combV andB la lb) (combE la lb)) := by
  have HC := hid (comb_any 44 andB rfl (fun x y W => meet_pred x y W) (enters_of Try.func44 (by kernel_rfl) rfl) la lb A B na ca nb cb w hna hnb hma hmb hA hB)
  generalize combV andB la lb = R at *
  generalize combE la lb = er at *
  clear hA hB
  go_enter Try.func17, Try.ntmps17
  go_wp2_with fail
  refine HC.out.mono ?_
  rintro e w1 ⟨v, rfl, ho, hb⟩
  have HO := hid ho
  obtain ⟨A1, c1, rfl, _, _, _⟩ := ho.view
  clear ho
  go_wp2
  go_ret2
  exact ⟨_, rfl, HO.out, hb⟩

set_option maxRecDepth 100000 in
set_option maxHeartbeats 2000000 in
theorem minus_any (la lb : List Sp) (A B : Option Addr) (na ca nb cb : Nat) (w : World) (hna : Hid (la.length = na)) (hnb : Hid (lb.length = nb)) (hma : na ≤ 4611686018427387904) (hmb : nb ≤ 4611686018427387904) (hA : SpH w A la) (hB : SpH w B lb) :
    Calls Try.prog 18 #[.slice A na ca, .slice B nb cb] w (RetSpE w (combV butB la lb) (combE la lb)) := by
  have HC := hid (comb_any 45 butB rfl (fun x y W => only_pred x y W) (enters_of Try.func45 (by kernel_rfl) rfl) la lb A B na ca nb cb w hna hnb hma hmb hA hB)
  generalize combV butB la lb = R at *
  generalize combE la lb = er at *
  clear hA hB
  go_enter Try.func18, Try.ntmps18
  go_wp2_with fail
  refine HC.out.mono ?_
  rintro e w1 ⟨v, rfl, ho, hb⟩
  have HO := hid ho
  obtain ⟨A1, c1, rfl, _, _, _⟩ := ho.view
  clear ho
  go_wp2
  go_ret2
  exact ⟨_, rfl, HO.out, hb⟩
end Go.Proofs.Ytpafnakepgjmnaa
