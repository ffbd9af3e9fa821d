/- The reference: Right and Make. -/
import Derived.Test.YtpafnakepgjmnaaTb
namespace Go.Proofs.Ytpafnakepgjmnaa
open Go.RowKit Go.Lib Go.Shelf

set_option maxRecDepth 100000 in
set_option maxHeartbeats 400000 in
theorem right_any (a b : Int) (w : World) : Calls Try.prog 55 #[.agg #[.int .i64 a, .int .i64 b]] w fun e w' => e = .returned (.bool (okB a b)) ∧ Below w.heap.size w w' := by
  by_cases h1 : 0 ≤ a
  · by_cases h2 : a ≤ b
    · by_cases h3 : b ≤ 65536
      · have H := hid (okB_true.2 ⟨h1, h2, h3⟩)
        go_enter Try.func55, Try.ntmps55
        go_wp2
        go_ret
        exact ⟨by rw [H.out]; simp, (by repeat (first | exact Below.refl _ _ | assumption | refine Below.alloc ?_ (by first | (simp; done) | (simp; omega) | omega) _ | refine Below.setCell ?_ (by first | (simp; done) | (simp; omega) | omega) _ | refine Below.drew ?_))⟩
      · have H := hid ((okB_false (a := a) (b := b)).2 fun h => h3 h.2.2)
        go_enter Try.func55, Try.ntmps55
        go_wp2
        go_ret
        exact ⟨by rw [H.out]; simp, (by repeat (first | exact Below.refl _ _ | assumption | refine Below.alloc ?_ (by first | (simp; done) | (simp; omega) | omega) _ | refine Below.setCell ?_ (by first | (simp; done) | (simp; omega) | omega) _ | refine Below.drew ?_))⟩
    · have H := hid ((okB_false (a := a) (b := b)).2 fun h => h2 h.2.1)
      go_enter Try.func55, Try.ntmps55
      go_wp2
      go_ret
      exact ⟨by rw [H.out]; simp, (by repeat (first | exact Below.refl _ _ | assumption | refine Below.alloc ?_ (by first | (simp; done) | (simp; omega) | omega) _ | refine Below.setCell ?_ (by first | (simp; done) | (simp; omega) | omega) _ | refine Below.drew ?_))⟩
  · have H := hid ((okB_false (a := a) (b := b)).2 fun h => h1 h.1)
    go_enter Try.func55, Try.ntmps55
    go_wp2
    go_ret
    exact ⟨by rw [H.out]; simp, (by repeat (first | exact Below.refl _ _ | assumption | refine Below.alloc ?_ (by first | (simp; done) | (simp; omega) | omega) _ | refine Below.setCell ?_ (by first | (simp; done) | (simp; omega) | omega) _ | refine Below.drew ?_))⟩

theorem right_eq {a b : Int} {r : Bool} {w : World} (hr : okB a b = r) : Calls Try.prog 55 #[.agg #[.int .i64 a, .int .i64 b]] w fun e w' => e = .returned (.bool r) ∧ Below w.heap.size w w' := by
  rw [← hr]; exact right_any a b w

theorem marks_eq {l : List Sp} {A : Option Addr} {n c : Nat} {w : World} (hn : l.length = n) (hm : n ≤ 4611686018427387904) (hv : Vd l) (hA : SpH w A l) :
    Calls Try.prog 57 #[.slice A n c] w fun e w' => ∃ g, e = .returned (.slice (some ⟨g, 0, none⟩) 65536 65536) ∧ w.heap.size ≤ g ∧ Mk w' g (memB l) ∧ Below w.heap.size w w' := marks_any l A n c w hn hm hv hA

/-- What the reference's Make returns. -/
def mkR (l : List Sp) : List Sp := if ∀ i, i < l.length → okB (fr l i) (tt l i) = true then norm (memB l) else []
def mkE (l : List Sp) : Int := if ∀ i, i < l.length → okB (fr l i) (tt l i) = true then 0 else 2
theorem vd_of {l : List Sp} (h : ∀ i, i < l.length → okB (fr l i) (tt l i) = true) : Vd l := fun s hs => by
  obtain ⟨i, hi, e⟩ := List.getElem_of_mem hs
  have h1 := okB_true.1 (h i hi)
  have e1 : fr l i = s.1 := by unfold fr; rw [List.getD_eq_getElem?_getD, List.getElem?_eq_getElem hi, e]; rfl
  have e2 : tt l i = s.2 := by unfold tt; rw [List.getD_eq_getElem?_getD, List.getElem?_eq_getElem hi, e]; rfl
  rw [e1, e2] at h1
  exact h1
theorem ok_of {l : List Sp} (h : Vd l) : ∀ i, i < l.length → okB (fr l i) (tt l i) = true := fun _ hi => okB_true.2 (h.at_ hi)

set_option maxRecDepth 100000 in
set_option maxHeartbeats 2000000 in
theorem make_ref (l : List Sp) (A : Option Addr) (n c : Nat) (w : World) (hn : Hid (l.length = n)) (hm : n ≤ 4611686018427387904) (hA : SpH w A l) :
    Calls Try.prog 33 #[.slice A n c] w (RetSpE w (mkR l) (mkE l)) := by
  have SA := hid hA
  clear hA
  go_enter Try.func33, Try.ntmps33
  go_wp2
  go_loopw [4] (fun i wr => ∃ k : Nat, k ≤ n ∧ i = .int .i64 k ∧ Hid (∀ j, j < k → okB (fr l j) (tt l j) = true) ∧ Below w.heap.size w wr) (fun i _ => n - (intOf i).toNat)
  case atStart => exact ⟨0, by omega, rfl, fun j hj => absurd hj (by omega), Below.refl _ _⟩
  case round =>
    obtain ⟨k, hk, rfl, HG, hb⟩ := hrel
    have HB := hid hb
    by_cases hlt : k < n
    · obtain ⟨b, off, rfl, hbl, hc⟩ := (SA.out.below hb).at_ hn.out (by omega)
      obtain ⟨x, hx⟩ : ∃ x, fr l k = x := ⟨_, rfl⟩
      obtain ⟨y, hy⟩ : ∃ y, tt l k = y := ⟨_, rfl⟩
      have c0 := (hc k hlt).1
      have c1 := (hc k hlt).2
      rw [hx] at c0
      rw [hy] at c1
      have HX := hid hx
      have HY := hid hy
      clear hx hy hc hb
      obtain ⟨r, hr⟩ : ∃ r, okB x y = r := ⟨_, rfl⟩
      have HR := hid hr
      go_wp2_with fail
      refine (right_eq HR.out).mono ?_
      rintro e u ⟨rfl, h⟩
      have HB2 := hid (HB.out.trans (h.mono HB.out.size))
      clear h hr
      cases r
      · have HE : Hid (¬ ∀ i, i < l.length → okB (fr l i) (tt l i) = true) := fun h => by
          have := h k (by rw [hn.out]; exact hlt)
          rw [HX.out, HY.out, HR.out] at this
          cases this
        go_wp2
        go_ret2
        unfold mkR mkE
        rw [if_neg HE.out, if_neg HE.out]
        exact ⟨_, rfl, ownSp_nil _ _, HB2.out⟩
      · have HG2 : Hid (∀ j, j < k + 1 → okB (fr l j) (tt l j) = true) := fun j hj => by
          by_cases g : j = k
          · subst g; rw [HX.out, HY.out, HR.out]
          · exact HG.out j (by omega)
        go_wp2
        go_roundw
        case rel => exact ⟨k + 1, by omega, by go_num, HG2, HB2.out⟩
        case measure => simp [intOf]; omega
    · have HE : Hid (∀ i, i < l.length → okB (fr l i) (tt l i) = true) := fun i hi => HG.out i (by have := hn.out; omega)
      have hlt' : ¬ (k : Int) < (n : Int) := by omega
      go_wp2_with fail
      refine (marks_eq (l := l) hn.out hm (vd_of HE.out) (SA.out.below hb)).mono ?_
      rintro e u ⟨g, rfl, hg, hM, h⟩
      have HB2 := hid (HB.out.trans (h.mono HB.out.size))
      have HM := hid hM
      clear h hM hb
      go_wp2_with fail
      refine (set_ref (memB l) g _ HM.out).mono ?_
      rintro e u2 ⟨v, rfl, ho, h⟩
      have HB3 := hid (HB2.out.trans (h.mono HB2.out.size))
      have HO := hid (ho.mono HB2.out.size)
      clear ho h
      go_wp2
      go_ret2
      unfold mkR mkE
      rw [if_pos HE.out, if_pos HE.out]
      exact ⟨_, rfl, HO.out, HB3.out⟩
end Go.Proofs.Ytpafnakepgjmnaa
