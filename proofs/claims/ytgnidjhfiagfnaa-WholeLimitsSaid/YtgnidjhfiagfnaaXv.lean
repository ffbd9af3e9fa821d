/- Parse. Conditions: none but on the lengths. -/
import Derived.Test.YtgnidjhfiagfnaaXu
import Derived.Test.YtgnidjhfiagfnaaShelf
import Derived.WideShapes
namespace Go.Proofs.Ytgnidjhfiagfnaa
open Go.RowKit

theorem str_some (s : ByteArray) (h : 0 < s.size) : s.toList.isEmpty = false := by
  rw [ByteArray.toList_eq]
  have : s.data.toList.length = s.size := by rw [Array.length_toList]; rfl
  cases hl : s.data.toList with
  | nil => rw [hl] at this; simp at this; omega
  | cons => rfl
theorem str_not {s : ByteArray} {c : UInt8} (h : byt s ≠ [c.toNat]) : (s.toList == [c]) = false := by
  rw [ByteArray.toList_eq, beq_eq_false_iff_ne]
  intro e
  apply h
  unfold byt
  rw [e]
  rfl
theorem str_is {s : ByteArray} {c : UInt8} (h : byt s = [c.toNat]) : (s.toList == [c]) = true := by
  rw [ByteArray.toList_eq, beq_iff_eq]
  unfold byt at h
  cases hl : s.data.toList with
  | nil => rw [hl] at h; simp at h
  | cons a l =>
    rw [hl] at h
    simp at h
    rw [UInt8.toNat_inj.1 h.1, h.2]

/-- Whether all are digits. -/
def dgB (l : List Nat) : Bool := l.all fun x => decide (48 ≤ x) && decide (x ≤ 57)
theorem dgB_iff (l : List Nat) : dgB l = true ↔ Dg l := by
  unfold dgB Dg
  simp
theorem dgB_yes {l : List Nat} (h : Dg l) : dgB l = true := (dgB_iff l).2 h
theorem dgB_no {l : List Nat} {x : Nat} (h : x ∈ l) (hx : ¬ (48 ≤ x ∧ x ≤ 57)) : dgB l = false := by
  cases hb : dgB l with
  | false => rfl
  | true => exact absurd ((dgB_iff l).1 hb x h) hx
/-- Whether it is a decimal form without a sign. -/
def isDecB (l : List Nat) : Bool := decide (l ≠ []) && (decide (nth l 0 ≠ 48) || decide (l = [48])) && dgB l
theorem isDecB_iff (l : List Nat) : isDecB l = true ↔ IsDec l := by
  unfold isDecB IsDec
  rw [← dgB_iff]
  simp [and_assoc]

set_option maxRecDepth 100000 in
set_option maxHeartbeats 400000 in
theorem decimal_empty (w : World) : Calls Try.prog 52 #[.string ⟨#[]⟩] w fun e w' => e = .returned (.bool false) ∧ w = w' := by
  go_enter Try.func52, Try.ntmps52
  go_wp2
  go_ret
  exact ⟨rfl, rfl⟩

set_option maxRecDepth 100000 in
set_option maxHeartbeats 400000 in
theorem decimal_lead (s : ByteArray) (w : World) (h0 : 0 < s.size) (h1 : s[0].toNat = 48) (h2 : byt s ≠ [48]) : Calls Try.prog 52 #[.string s] w fun e w' => e = .returned (.bool false) ∧ w = w' := by
  have e1 := str_some s h0
  have e2 : (s.toList == [48]) = false := str_not (c := 48) h2
  clear h2
  go_enter Try.func52, Try.ntmps52
  go_wp2
  go_ret
  exact ⟨rfl, rfl⟩

set_option maxRecDepth 100000 in
set_option maxHeartbeats 2000000 in
theorem decimal_one (s : ByteArray) (w : World) (h0 : 0 < s.size) (hsz : s.size ≤ 4611686018427387904) (h1 : s[0].toNat = 48) (h2 : byt s = [48]) : Calls Try.prog 52 #[.string s] w fun e w' => e = .returned (.bool (dgB (byt s))) ∧ w = w' := by
  have e1 := str_some s h0
  have HL : Hid ((byt s).length = s.size) := byt_length s
  have e2 : (s.toList == [48]) = true := str_is (c := 48) h2
  have h48 : ((s[0].toNat : Int) == 48) = true := by rw [h1]; rfl
  clear h2
  go_enter Try.func52, Try.ntmps52
  go_wp2
  go_loopw [17] (fun i wr => ∃ k : Nat, k ≤ s.size ∧ i = .int .i64 k ∧ Hid (Dg ((byt s).take k)) ∧ w = wr) (fun i _ => s.size - (intOf i).toNat)
  case atStart => exact ⟨0, by omega, rfl, by (show Dg _; simp [Dg]), by first | rfl | trivial⟩
  case round =>
    obtain ⟨k, hk, rfl, HM, rfl⟩ := hrel
    by_cases hlt : k < s.size
    · have hx := byt_nth s k hlt
      have hmem : s[k].toNat ∈ byt s := by
        rw [← hx]
        unfold nth
        rw [List.getD_eq_getElem?_getD, List.getElem?_eq_getElem (by rw [HL.out]; exact hlt)]
        exact List.getElem_mem _
      have HI : Hid (s[k].toNat ∈ byt s) := hmem
      by_cases hc : s[k].toNat < 48
      · clear hx hmem
        go_wp2
        go_ret
        exact ⟨by rw [dgB_no HI.out (by omega)]; rfl, by first | rfl | trivial⟩
      · by_cases hc2 : 57 < s[k].toNat
        · clear hx hmem
          go_wp2
          go_ret
          exact ⟨by rw [dgB_no HI.out (by omega)]; rfl, by first | rfl | trivial⟩
        · have HM2 : Hid (Dg ((byt s).take (k + 1))) := by
            show Dg _
            rw [take_snoc_getD _ (by rw [HL.out]; exact hlt), hx]
            intro y hy
            rcases List.mem_append.1 hy with h | h
            · exact HM.out y h
            · simp at h; omega
          clear hx hmem
          go_wp2
          go_roundw
          case rel => exact ⟨k + 1, by omega, by go_num, HM2, by first | rfl | trivial⟩
          case measure => simp [intOf]; omega
    · obtain rfl : k = s.size := by omega
      go_wp2
      go_ret
      have hall := HM.out
      rw [List.take_of_length_le (by rw [HL.out]; omega)] at hall
      exact ⟨by rw [dgB_yes hall]; rfl, by first | rfl | trivial⟩

set_option maxRecDepth 100000 in
set_option maxHeartbeats 2000000 in
theorem decimal_two (s : ByteArray) (w : World) (h0 : 0 < s.size) (hsz : s.size ≤ 4611686018427387904) (h1 : s[0].toNat ≠ 48) : Calls Try.prog 52 #[.string s] w fun e w' => e = .returned (.bool (dgB (byt s))) ∧ w = w' := by
  have e1 := str_some s h0
  have HL : Hid ((byt s).length = s.size) := byt_length s
  have h48 : ((s[0].toNat : Int) == 48) = false := by rw [beq_eq_false_iff_ne]; omega
  go_enter Try.func52, Try.ntmps52
  go_wp2
  go_loopw [17] (fun i wr => ∃ k : Nat, k ≤ s.size ∧ i = .int .i64 k ∧ Hid (Dg ((byt s).take k)) ∧ w = wr) (fun i _ => s.size - (intOf i).toNat)
  case atStart => exact ⟨0, by omega, rfl, by (show Dg _; simp [Dg]), by first | rfl | trivial⟩
  case round =>
    obtain ⟨k, hk, rfl, HM, rfl⟩ := hrel
    by_cases hlt : k < s.size
    · have hx := byt_nth s k hlt
      have hmem : s[k].toNat ∈ byt s := by
        rw [← hx]
        unfold nth
        rw [List.getD_eq_getElem?_getD, List.getElem?_eq_getElem (by rw [HL.out]; exact hlt)]
        exact List.getElem_mem _
      have HI : Hid (s[k].toNat ∈ byt s) := hmem
      by_cases hc : s[k].toNat < 48
      · clear hx hmem
        go_wp2
        go_ret
        exact ⟨by rw [dgB_no HI.out (by omega)]; rfl, by first | rfl | trivial⟩
      · by_cases hc2 : 57 < s[k].toNat
        · clear hx hmem
          go_wp2
          go_ret
          exact ⟨by rw [dgB_no HI.out (by omega)]; rfl, by first | rfl | trivial⟩
        · have HM2 : Hid (Dg ((byt s).take (k + 1))) := by
            show Dg _
            rw [take_snoc_getD _ (by rw [HL.out]; exact hlt), hx]
            intro y hy
            rcases List.mem_append.1 hy with h | h
            · exact HM.out y h
            · simp at h; omega
          clear hx hmem
          go_wp2
          go_roundw
          case rel => exact ⟨k + 1, by omega, by go_num, HM2, by first | rfl | trivial⟩
          case measure => simp [intOf]; omega
    · obtain rfl : k = s.size := by omega
      go_wp2
      go_ret
      have hall := HM.out
      rw [List.take_of_length_le (by rw [HL.out]; omega)] at hall
      exact ⟨by rw [dgB_yes hall]; rfl, by first | rfl | trivial⟩

theorem decimal_any (s : ByteArray) (w : World) (hsz : s.size ≤ 4611686018427387904) : Calls Try.prog 52 #[.string s] w fun e w' => e = .returned (.bool (isDecB (byt s))) ∧ w = w' := by
  rcases Nat.eq_zero_or_pos s.size with h0 | h0
  · have he : s = ⟨#[]⟩ := by
      apply byt_inj
      rw [List.eq_nil_of_length_eq_zero (l := byt s) (by rw [byt_length]; exact h0)]
      rfl
    subst he
    refine (decimal_empty w).mono ?_
    rintro e w' ⟨rfl, rfl⟩
    exact ⟨rfl, rfl⟩
  · have hn := byt_nth s 0 h0
    have hne : byt s ≠ [] := fun e => by
      have := congrArg List.length e
      rw [byt_length] at this
      rw [this] at h0
      simp at h0
    by_cases h1 : s[0].toNat = 48
    · by_cases h2 : byt s = [48]
      · refine (decimal_one s w h0 hsz h1 h2).mono ?_
        rintro e w' ⟨rfl, rfl⟩
        refine ⟨ret_bool ?_, rfl⟩
        unfold isDecB
        rw [decide_eq_true hne, decide_eq_true h2]
        simp
      · refine (decimal_lead s w h0 h1 h2).mono ?_
        rintro e w' ⟨rfl, rfl⟩
        refine ⟨ret_bool ?_, rfl⟩
        unfold isDecB
        rw [hn, decide_eq_false h2, h1]
        simp
    · refine (decimal_two s w h0 hsz h1).mono ?_
      rintro e w' ⟨rfl, rfl⟩
      refine ⟨ret_bool ?_, rfl⟩
      unfold isDecB
      rw [decide_eq_true hne, hn, decide_eq_true h1]
      simp
end Go.Proofs.Ytgnidjhfiagfnaa
