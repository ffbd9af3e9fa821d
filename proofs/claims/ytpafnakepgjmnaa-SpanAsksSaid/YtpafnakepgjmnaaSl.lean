/- Borders: day, inside, pass; changes. -/
import Derived.Test.YtpafnakepgjmnaaSk
import Derived.Test.YtpafnakepgjmnaaSp5
namespace Go.Proofs.Ytpafnakepgjmnaa
open Go.RowKit Go.Lib Go.Shelf

set_option maxRecDepth 100000 in
set_option maxHeartbeats 400000 in
theorem inside_any (A : Option Addr) (n c i : Nat) (w : World) (hi : i ≤ 1000000) :
    Calls Try.prog 63 #[.agg #[.slice A n c, .int .i64 i]] w fun e w' => e = .returned (.bool (odd i)) ∧ Below w.heap.size w w' := by
  cases ho : odd i
  · have h : i % 2 = 0 := by have := of_decide_eq_false ho; omega
    have h2 : (i : Int) % 2 = 0 := by omega
    clear ho
    go_enter Try.func63, Try.ntmps63
    go_wp2
    go_ret
    exact ⟨rfl, (by repeat (first | exact Below.refl _ _ | assumption | refine Below.alloc ?_ (by first | (simp; done) | (simp; omega) | omega) _ | refine Below.setCell ?_ (by first | (simp; done) | (simp; omega) | omega) _ | refine Below.drew ?_))⟩
  · have h : i % 2 = 1 := of_decide_eq_true ho
    have h2 : (i : Int) % 2 = 1 := by omega
    clear ho
    go_enter Try.func63, Try.ntmps63
    go_wp2
    go_ret
    exact ⟨rfl, (by repeat (first | exact Below.refl _ _ | assumption | refine Below.alloc ?_ (by first | (simp; done) | (simp; omega) | omega) _ | refine Below.setCell ?_ (by first | (simp; done) | (simp; omega) | omega) _ | refine Below.drew ?_))⟩

set_option maxRecDepth 100000 in
set_option maxHeartbeats 2000000 in
theorem day_any (l : List Sp) (A : Option Addr) (n c i : Nat) (w : World) (hn : Hid (l.length = n)) (hm : n ≤ 65536) (hi : i ≤ 2 * n) (hA : SpH w A l) :
    Calls Try.prog 61 #[.agg #[.slice A n c, .int .i64 i]] w fun e w' => e = .returned (.int .i64 (dayV l i)) ∧ Below w.heap.size w w' := by
  obtain ⟨k, hk⟩ : ∃ k, i / 2 = k := ⟨_, rfl⟩
  have hdiv : (i : Int) / 2 = (k : Int) := by omega
  by_cases hend : n ≤ k
  · have HD : Hid (dayV l i = 65537) := dayV_end (by rw [hn.out]; omega)
    have hkn : ((k : Int) == (n : Int)) = true := by rw [beq_iff_eq]; omega
    clear hk
    go_enter Try.func61, Try.ntmps61
    go_wp2
    go_ret
    exact ⟨by rw [HD.out]; rfl, (by repeat (first | exact Below.refl _ _ | assumption | refine Below.alloc ?_ (by first | (simp; done) | (simp; omega) | omega) _ | refine Below.setCell ?_ (by first | (simp; done) | (simp; omega) | omega) _ | refine Below.drew ?_))⟩
  · have hkn : ((k : Int) == (n : Int)) = false := by rw [beq_eq_false_iff_ne]; omega
    obtain ⟨b, off, rfl, hbl, hc⟩ := hA.at_ hn.out (by omega)
    have c0 := (hc k (by omega)).1
    have c1 := (hc k (by omega)).2
    have hkl : k < n := by omega
    clear hc hA
    cases ho : odd i
    · have h : i = 2 * k := by have := of_decide_eq_false ho; omega
      have HO := hid ho
      have HD : Hid (dayV l i = fr l k) := by show _ = _; rw [h, dayV_even (by rw [hn.out]; omega)]
      obtain ⟨x, hx⟩ : ∃ x, fr l k = x := ⟨_, rfl⟩
      rw [hx] at c0 HD
      have b1 := fun (w1 : World) (hb : Below (w.alloc (.cells #[.slice (some ⟨b, off, none⟩) n c, .int .i64 i] 74)).heap.size (w.alloc (.cells #[.slice (some ⟨b, off, none⟩) n c, .int .i64 i] 74)) w1) => (Blk.new w 74 #[.slice (some ⟨b, off, none⟩) n c, .int .i64 i]).below hb (by simp)
      have B1 := hid b1
      clear h ho hx hk hend b1 c1
      go_enter Try.func61, Try.ntmps61
      go_wp2_with fail
      refine (inside_any _ _ _ _ _ (by omega)).mono ?_
      rintro e w1 ⟨rfl, h1⟩
      rw [HO.out]
      have k1 := B1.out w1 h1
      have q0 := (k1.cell 0).trans (b := some (Value.slice (some ⟨b, off, none⟩) n c)) rfl
      have hb1 := below_new h1
      have c0' := (hb1.cell (p := ⟨b, off + k * 2, none⟩) hbl).trans c0
      clear B1 h1 k1 c0
      go_wp2
      go_ret
      exact ⟨by rw [HD.out]; rfl, hb1⟩
    · have h : i = 2 * k + 1 := by have := of_decide_eq_true ho; omega
      have HO := hid ho
      have HD : Hid (dayV l i = tt l k) := by show _ = _; rw [h, dayV_odd (by rw [hn.out]; omega)]
      obtain ⟨x, hx⟩ : ∃ x, tt l k = x := ⟨_, rfl⟩
      rw [hx] at c1 HD
      have b1 := fun (w1 : World) (hb : Below (w.alloc (.cells #[.slice (some ⟨b, off, none⟩) n c, .int .i64 i] 74)).heap.size (w.alloc (.cells #[.slice (some ⟨b, off, none⟩) n c, .int .i64 i] 74)) w1) => (Blk.new w 74 #[.slice (some ⟨b, off, none⟩) n c, .int .i64 i]).below hb (by simp)
      have B1 := hid b1
      clear h ho hx hk hend b1 c0
      go_enter Try.func61, Try.ntmps61
      go_wp2_with fail
      refine (inside_any _ _ _ _ _ (by omega)).mono ?_
      rintro e w1 ⟨rfl, h1⟩
      rw [HO.out]
      have k1 := B1.out w1 h1
      have q0 := (k1.cell 0).trans (b := some (Value.slice (some ⟨b, off, none⟩) n c)) rfl
      have hb1 := below_new h1
      have c0' := (hb1.cell (p := ⟨b, off + k * 2 + 1, none⟩) hbl).trans c1
      clear B1 h1 k1 c1
      go_wp2
      go_ret
      exact ⟨by rw [HD.out]; rfl, hb1⟩
end Go.Proofs.Ytpafnakepgjmnaa
