/- Two numbers joined by an operation. Conditions: the operation's own contract. -/
import Derived.Test.YtgnidjhfiagfnaaWj
namespace Go.Proofs.Ytgnidjhfiagfnaa
open Go.RowKit

theorem allValid1 {w : World} {M n c : Nat} {A : Option Addr} {x : Bool} {l : List Nat} (hs : Sl w (.slice A n c) l) (hn : Hid (l.length = n)) (hb : Blk w M 26 #[.bool x, .slice A n c]) :
    Calls Try.prog 48 #[.slice (some ⟨M, 0, none⟩) 1 1] w fun e w' => e = .returned (.bool (validB x l)) ∧ Below w.heap.size w w' := by
  have hn' := hn.out
  subst hn'
  refine (allValid_any 1 M (fun _ => x) (fun _ => l) (fun _ => undef) w (by omega) hb.lt ?_).mono ?_
  · intro j hj
    obtain rfl : j = 0 := by omega
    exact ⟨A, c, hs, hb.cell 0, hb.cell 1⟩
  · rintro e w' ⟨rfl, hbel⟩
    exact ⟨rfl, hbel⟩

theorem allValid2 {w : World} {M n c m d : Nat} {A B : Option Addr} {x y : Bool} {l k : List Nat} (hs : Sl w (.slice A n c) l) (hn : Hid (l.length = n)) (ht : Sl w (.slice B m d) k) (hm : Hid (k.length = m)) (hb : Blk w M 26 #[.bool x, .slice A n c, .bool y, .slice B m d]) :
    Calls Try.prog 48 #[.slice (some ⟨M, 0, none⟩) 2 2] w fun e w' => e = .returned (.bool (validB x l && validB y k)) ∧ Below w.heap.size w w' := by
  have hn' := hn.out
  subst hn'
  have hm' := hm.out
  subst hm'
  refine (allValid_any 2 M (fun j => if j = 0 then x else y) (fun j => if j = 0 then l else k) (fun _ => undef) w (by omega) hb.lt ?_).mono ?_
  · intro j hj
    match j, hj with
    | 0, _ => exact ⟨A, c, hs, hb.cell 0, hb.cell 1⟩
    | 1, _ => exact ⟨B, d, ht, hb.cell 2, hb.cell 3⟩
  · rintro e w' ⟨rfl, hbel⟩
    refine ⟨ret_bool ?_, hbel⟩
    simp [allV]

/-- What a function that fails hands back beside its error. -/
def zeroV : Value := .agg #[.bool false, .slice none 0 0]

set_option maxRecDepth 100000 in
set_option maxHeartbeats 2000000 in
theorem join_bad (f M : Nat) (x y : Bool) (la lb : List Nat) (A B : Option Addr) (na ca nb cb : Nat) (w : World) (hsa : Sl w (.slice A na ca) la) (hna : Hid (la.length = na)) (hsb : Sl w (.slice B nb cb) lb) (hnb : Hid (lb.length = nb)) (hM : Blk w M 26 #[.bool y, .slice B nb cb]) (hv : validB x la = false ∨ validB y lb = false) :
    Calls Try.prog 38 #[.func (.func f) #[] #[], .agg #[.bool x, .slice A na ca], .slice (some ⟨M, 0, none⟩) 1 1] w fun e w' => e = .returned (.tuple #[.agg #[.bool false, .slice none 0 0], .int .i64 2]) ∧ Below w.heap.size w w' := by
  obtain ⟨W0, hW0⟩ : ∃ W0, ((w.alloc (.cells #[.bool x, .slice A na ca] 26)).alloc (.cells #[.bool false, .slice none 0 0] 26)).alloc (.cells #[.bool x, .slice A na ca] 26) = W0 := ⟨_, rfl⟩
  have b1 : Blk W0 (w.heap.size + 1) 26 #[.bool false, .slice none 0 0] := by
    rw [← hW0]
    have := (Blk.new (w.alloc (.cells #[.bool x, .slice A na ca] 26)) 26 #[.bool false, .slice none 0 0]).alloc (.cells #[.bool x, .slice A na ca] 26)
    rwa [World.size_alloc] at this
  have b2 : Blk W0 (w.heap.size + 1 + 1) 26 #[.bool x, .slice A na ca] := by
    rw [← hW0]
    have := (Blk.new ((w.alloc (.cells #[.bool x, .slice A na ca] 26)).alloc (.cells #[.bool false, .slice none 0 0] 26)) 26 #[.bool x, .slice A na ca])
    rwa [World.size_alloc, World.size_alloc] at this
  have bw : Below w.heap.size w W0 := by rw [← hW0]; exact (by repeat (first | exact Below.refl _ _ | assumption | refine Below.alloc ?_ (by first | (simp; done) | (simp; omega) | omega) _ | refine Below.setCell ?_ (by first | (simp; done) | (simp; omega) | omega) _ | refine Below.drew ?_))
  have HW : Hid (((w.alloc (.cells #[.bool x, .slice A na ca] 26)).alloc (.cells #[.bool false, .slice none 0 0] 26)).alloc (.cells #[.bool x, .slice A na ca] 26) = W0) := hW0
  clear hW0
  have h1 := allValid1 (hsa.below bw) hna b2
  have l1 := b1.lt
  cases hx : validB x la with
  | false =>
    rw [hx] at h1
    have H1 : Hid (Calls Try.prog 48 #[.slice (some ⟨w.heap.size + 1 + 1, 0, none⟩) 1 1] W0 fun e w' => e = .returned (.bool false) ∧ Below W0.heap.size W0 w') := h1
    clear h1 hx hv
    go_enter Try.func38, Try.ntmps38
    go_wp2_with (rw [HW.out]; go_at_call 48; refine H1.out.mono ?_; rintro e w1 ⟨rfl, hb1⟩; have e1 := b1.below hb1 l1; have g1 := (e1.cell 0).trans (b := some (Value.bool false)) rfl; have g2 := (e1.cell 1).trans (b := some (Value.slice none 0 0)) rfl; have f1 := e1.frozen 0; have f2 := e1.frozen 1; have l2 := e1.lt)
    have r := ((e1.set_ 0 (.bool false)).set_ 1 (.slice none 0 0))
    have r0 := (r.cell 0).trans (b := some (Value.bool false)) rfl
    have r1 := (r.cell 1).trans (b := some (Value.slice none 0 0)) rfl
    exact bodyPost_ret (v := .tuple #[.agg #[.bool false, .slice none 0 0], .int .i64 2]) (by simp [results, Try.f38, go_sem, r0, r1]) rfl ⟨rfl, ((bw.trans (hb1.mono bw.size)).setCell (p := ⟨w.heap.size + 1, 0, none⟩) (by simp) _).setCell (p := ⟨w.heap.size + 1, 1, none⟩) (by simp) _⟩
  | true =>
    rw [hx] at h1
    have hy : validB y lb = false := by rcases hv with h | h; · rw [hx] at h; cases h
                                        · exact h
    have H1 : Hid (Calls Try.prog 48 #[.slice (some ⟨w.heap.size + 1 + 1, 0, none⟩) 1 1] W0 fun e w' => e = .returned (.bool true) ∧ Below W0.heap.size W0 w') := h1
    have H2 : Hid (∀ w1, Below W0.heap.size W0 w1 → Calls Try.prog 48 #[.slice (some ⟨M, 0, none⟩) 1 1] w1 fun e w' => e = .returned (.bool false) ∧ Below w1.heap.size w1 w') := by
      intro w1 hb
      have := allValid1 ((hsb.below bw).below hb) hnb ((hM.below bw hM.lt).below hb (Nat.lt_of_lt_of_le hM.lt bw.size))
      rwa [hy] at this
    clear h1 hx hv hy
    go_enter Try.func38, Try.ntmps38
    go_wp2_with (first | (rw [HW.out]; go_at_call 48; refine H1.out.mono ?_; clear H1; rintro e w1 ⟨rfl, hb1⟩) | (go_at_call 48; refine (H2.out _ hb1).mono ?_; rintro e w2 ⟨rfl, hb2⟩; have e1 := (b1.below hb1 l1).below hb2 (Nat.lt_of_lt_of_le l1 hb1.size); have g1 := (e1.cell 0).trans (b := some (Value.bool false)) rfl; have g2 := (e1.cell 1).trans (b := some (Value.slice none 0 0)) rfl; have f1 := e1.frozen 0; have f2 := e1.frozen 1; have l2 := e1.lt))
    have r := ((e1.set_ 0 (.bool false)).set_ 1 (.slice none 0 0))
    have r0 := (r.cell 0).trans (b := some (Value.bool false)) rfl
    have r1 := (r.cell 1).trans (b := some (Value.slice none 0 0)) rfl
    exact bodyPost_ret (v := .tuple #[.agg #[.bool false, .slice none 0 0], .int .i64 2]) (by simp [results, Try.f38, go_sem, r0, r1]) rfl ⟨rfl, (((bw.trans (hb1.mono bw.size)).trans (hb2.mono (Nat.le_trans bw.size hb1.size))).setCell (p := ⟨w.heap.size + 1, 0, none⟩) (by simp) _).setCell (p := ⟨w.heap.size + 1, 1, none⟩) (by simp) _⟩
end Go.Proofs.Ytgnidjhfiagfnaa
