/- The reference's Parse. -/
import Derived.Test.YtmpkjooglpomoaaDoorFb
import Derived.Test.YtmpkjooglpomoaaDoorDj
namespace Go.Proofs.YtmpkjooglpomoaaDoor
open Go.RowKit Go.Lib

theorem idx_bt (s : ByteArray) (i : Nat) (hi : i < s.size) : ((s[i]'hi).toNat : Int) = bt s i := by
  have h2 : i < s.data.size := hi
  unfold bt
  rw [List.getD_eq_getElem?_getD, List.getElem?_eq_getElem (by simpa using h2)]
  rfl

def Vok2 (s : ByteArray) : Prop := Dig (bt s 0) ∧ Dig (bt s 1)
/-- The number that value returns. -/
def Val2 (s : ByteArray) (v : Int) : Prop := (Vok2 s → v = num2 (bt s 0) (bt s 1)) ∧ (¬ Vok2 s → v = -1)
set_option maxRecDepth 100000 in
set_option maxHeartbeats 2000000 in
theorem value2 (s : ByteArray) (w : World) (hs : s.size = 2) {v : Int} (hv : Val2 s v) :
    Calls Tryd.prog 47 #[.string s] w fun e w' => e = .returned (.int .i64 v) ∧ w' = w := by
  have HV := hid hv
  have e0 := idx_bt s 0 (by omega)
  have e1 := idx_bt s 1 (by omega)
  clear hv
  go_enter Tryd.func47, Tryd.ntmps47
  go_wp2
  go_loop [3, 4] (fun n i =>
      (i = .int .i64 0 ∧ Hid (True) ∧ ∃ x, Hid (x = 0) ∧ 0 ≤ x ∧ x ≤ 0 ∧ n = .int .i64 x) ∨
      (i = .int .i64 1 ∧ Hid (Dig (bt s 0)) ∧ ∃ x, Hid (x = bt s 0 - 48) ∧ 0 ≤ x ∧ x ≤ 9 ∧ n = .int .i64 x) ∨
      (i = .int .i64 2 ∧ Hid (Dig (bt s 0) ∧ Dig (bt s 1)) ∧ ∃ x, Hid (x = num2 (bt s 0) (bt s 1)) ∧ 0 ≤ x ∧ x ≤ 99 ∧ n = .int .i64 x))
    (fun _ i => (2 - intOf i).toNat)
  case atStart => exact Or.inl ⟨rfl, trivial, 0, rfl, by omega, by omega, rfl⟩
  case round =>
    rcases hrel with ⟨rfl, HQ, x, HX, x0, x1, rfl⟩ | ⟨rfl, HQ, x, HX, x0, x1, rfl⟩ | ⟨rfl, HQ, x, HX, x0, x1, rfl⟩
    · by_cases g1 : bt s 0 < 48
      · have hn : v = -1 := HV.out.2 (fun h => by have := (h.1).1; omega)
        subst hn
        go_wp2_with fail
        go_ret
        exact ⟨rfl, rfl⟩
      by_cases g2 : 57 < bt s 0
      · have hn : v = -1 := HV.out.2 (fun h => by have := (h.1).2; omega)
        subst hn
        go_wp2_with fail
        go_ret
        exact ⟨rfl, rfl⟩
      have d1 : 48 ≤ bt s 0 := by omega
      have d2 : bt s 0 ≤ 57 := by omega
      go_wp2_with fail
      go_round
      case rel => exact Or.inr (Or.inl ⟨rfl, ⟨d1, d2⟩, 10 * x + (bt s 0 - 48), (by show _ = _; rw [HX.out]; first | rfl | omega | (unfold num4; omega) | (unfold num2; omega)), by omega, by omega, by go_num⟩)
      case measure => simp [intOf]
    · by_cases g1 : bt s 1 < 48
      · have hn : v = -1 := HV.out.2 (fun h => by have := (h.2).1; omega)
        subst hn
        go_wp2_with fail
        go_ret
        exact ⟨rfl, rfl⟩
      by_cases g2 : 57 < bt s 1
      · have hn : v = -1 := HV.out.2 (fun h => by have := (h.2).2; omega)
        subst hn
        go_wp2_with fail
        go_ret
        exact ⟨rfl, rfl⟩
      have d1 : 48 ≤ bt s 1 := by omega
      have d2 : bt s 1 ≤ 57 := by omega
      go_wp2_with fail
      go_round
      case rel => exact Or.inr (Or.inr (⟨rfl, ⟨HQ.out, ⟨d1, d2⟩⟩, 10 * x + (bt s 1 - 48), (by show _ = _; rw [HX.out]; first | rfl | omega | (unfold num4; omega) | (unfold num2; omega)), by omega, by omega, by go_num⟩))
      case measure => simp [intOf]
    · have hn : v = x := (HV.out.1 HQ.out).trans HX.out.symm
      subst hn
      go_wp2_with fail
      go_ret
      exact ⟨rfl, rfl⟩

def Vok4 (s : ByteArray) : Prop := Dig (bt s 0) ∧ Dig (bt s 1) ∧ Dig (bt s 2) ∧ Dig (bt s 3)
/-- The number that value returns. -/
def Val4 (s : ByteArray) (v : Int) : Prop := (Vok4 s → v = num4 (bt s 0) (bt s 1) (bt s 2) (bt s 3)) ∧ (¬ Vok4 s → v = -1)
set_option maxRecDepth 100000 in
set_option maxHeartbeats 2000000 in
theorem value4 (s : ByteArray) (w : World) (hs : s.size = 4) {v : Int} (hv : Val4 s v) :
    Calls Tryd.prog 47 #[.string s] w fun e w' => e = .returned (.int .i64 v) ∧ w' = w := by
  have HV := hid hv
  have e0 := idx_bt s 0 (by omega)
  have e1 := idx_bt s 1 (by omega)
  have e2 := idx_bt s 2 (by omega)
  have e3 := idx_bt s 3 (by omega)
  clear hv
  go_enter Tryd.func47, Tryd.ntmps47
  go_wp2
  go_loop [3, 4] (fun n i =>
      (i = .int .i64 0 ∧ Hid (True) ∧ ∃ x, Hid (x = 0) ∧ 0 ≤ x ∧ x ≤ 0 ∧ n = .int .i64 x) ∨
      (i = .int .i64 1 ∧ Hid (Dig (bt s 0)) ∧ ∃ x, Hid (x = bt s 0 - 48) ∧ 0 ≤ x ∧ x ≤ 9 ∧ n = .int .i64 x) ∨
      (i = .int .i64 2 ∧ Hid (Dig (bt s 0) ∧ Dig (bt s 1)) ∧ ∃ x, Hid (x = num2 (bt s 0) (bt s 1)) ∧ 0 ≤ x ∧ x ≤ 99 ∧ n = .int .i64 x) ∨
      (i = .int .i64 3 ∧ Hid (Dig (bt s 0) ∧ Dig (bt s 1) ∧ Dig (bt s 2)) ∧ ∃ x, Hid (x = num2 (bt s 0) (bt s 1) * 10 + (bt s 2 - 48)) ∧ 0 ≤ x ∧ x ≤ 999 ∧ n = .int .i64 x) ∨
      (i = .int .i64 4 ∧ Hid (Dig (bt s 0) ∧ Dig (bt s 1) ∧ Dig (bt s 2) ∧ Dig (bt s 3)) ∧ ∃ x, Hid (x = num4 (bt s 0) (bt s 1) (bt s 2) (bt s 3)) ∧ 0 ≤ x ∧ x ≤ 9999 ∧ n = .int .i64 x))
    (fun _ i => (4 - intOf i).toNat)
  case atStart => exact Or.inl ⟨rfl, trivial, 0, rfl, by omega, by omega, rfl⟩
  case round =>
    rcases hrel with ⟨rfl, HQ, x, HX, x0, x1, rfl⟩ | ⟨rfl, HQ, x, HX, x0, x1, rfl⟩ | ⟨rfl, HQ, x, HX, x0, x1, rfl⟩ | ⟨rfl, HQ, x, HX, x0, x1, rfl⟩ | ⟨rfl, HQ, x, HX, x0, x1, rfl⟩
    · by_cases g1 : bt s 0 < 48
      · have hn : v = -1 := HV.out.2 (fun h => by have := (h.1).1; omega)
        subst hn
        go_wp2_with fail
        go_ret
        exact ⟨rfl, rfl⟩
      by_cases g2 : 57 < bt s 0
      · have hn : v = -1 := HV.out.2 (fun h => by have := (h.1).2; omega)
        subst hn
        go_wp2_with fail
        go_ret
        exact ⟨rfl, rfl⟩
      have d1 : 48 ≤ bt s 0 := by omega
      have d2 : bt s 0 ≤ 57 := by omega
      go_wp2_with fail
      go_round
      case rel => exact Or.inr (Or.inl ⟨rfl, ⟨d1, d2⟩, 10 * x + (bt s 0 - 48), (by show _ = _; rw [HX.out]; first | rfl | omega | (unfold num4; omega) | (unfold num2; omega)), by omega, by omega, by go_num⟩)
      case measure => simp [intOf]
    · by_cases g1 : bt s 1 < 48
      · have hn : v = -1 := HV.out.2 (fun h => by have := (h.2.1).1; omega)
        subst hn
        go_wp2_with fail
        go_ret
        exact ⟨rfl, rfl⟩
      by_cases g2 : 57 < bt s 1
      · have hn : v = -1 := HV.out.2 (fun h => by have := (h.2.1).2; omega)
        subst hn
        go_wp2_with fail
        go_ret
        exact ⟨rfl, rfl⟩
      have d1 : 48 ≤ bt s 1 := by omega
      have d2 : bt s 1 ≤ 57 := by omega
      go_wp2_with fail
      go_round
      case rel => exact Or.inr (Or.inr (Or.inl ⟨rfl, ⟨HQ.out, ⟨d1, d2⟩⟩, 10 * x + (bt s 1 - 48), (by show _ = _; rw [HX.out]; first | rfl | omega | (unfold num4; omega) | (unfold num2; omega)), by omega, by omega, by go_num⟩))
      case measure => simp [intOf]
    · by_cases g1 : bt s 2 < 48
      · have hn : v = -1 := HV.out.2 (fun h => by have := (h.2.2.1).1; omega)
        subst hn
        go_wp2_with fail
        go_ret
        exact ⟨rfl, rfl⟩
      by_cases g2 : 57 < bt s 2
      · have hn : v = -1 := HV.out.2 (fun h => by have := (h.2.2.1).2; omega)
        subst hn
        go_wp2_with fail
        go_ret
        exact ⟨rfl, rfl⟩
      have d1 : 48 ≤ bt s 2 := by omega
      have d2 : bt s 2 ≤ 57 := by omega
      go_wp2_with fail
      go_round
      case rel => exact Or.inr (Or.inr (Or.inr (Or.inl ⟨rfl, ⟨HQ.out.1, HQ.out.2, ⟨d1, d2⟩⟩, 10 * x + (bt s 2 - 48), (by show _ = _; rw [HX.out]; first | rfl | omega | (unfold num4; omega) | (unfold num2; omega)), by omega, by omega, by go_num⟩)))
      case measure => simp [intOf]
    · by_cases g1 : bt s 3 < 48
      · have hn : v = -1 := HV.out.2 (fun h => by have := (h.2.2.2).1; omega)
        subst hn
        go_wp2_with fail
        go_ret
        exact ⟨rfl, rfl⟩
      by_cases g2 : 57 < bt s 3
      · have hn : v = -1 := HV.out.2 (fun h => by have := (h.2.2.2).2; omega)
        subst hn
        go_wp2_with fail
        go_ret
        exact ⟨rfl, rfl⟩
      have d1 : 48 ≤ bt s 3 := by omega
      have d2 : bt s 3 ≤ 57 := by omega
      go_wp2_with fail
      go_round
      case rel => exact Or.inr (Or.inr (Or.inr (Or.inr (⟨rfl, ⟨HQ.out.1, HQ.out.2.1, HQ.out.2.2, ⟨d1, d2⟩⟩, 10 * x + (bt s 3 - 48), (by show _ = _; rw [HX.out]; first | rfl | omega | (unfold num4; omega) | (unfold num2; omega)), by omega, by omega, by go_num⟩))))
      case measure => simp [intOf]
    · have hn : v = x := (HV.out.1 HQ.out).trans HX.out.symm
      subst hn
      go_wp2_with fail
      go_ret
      exact ⟨rfl, rfl⟩
end Go.Proofs.YtmpkjooglpomoaaDoor
