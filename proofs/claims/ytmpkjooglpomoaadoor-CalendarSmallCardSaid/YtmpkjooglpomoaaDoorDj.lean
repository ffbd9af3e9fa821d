/- The reference's texts. -/
import Derived.Test.YtmpkjooglpomoaaDoorCh
import Derived.Test.YtmpkjooglpomoaaDoorCl
namespace Go.Proofs.YtmpkjooglpomoaaDoor
open Go.RowKit Go.Lib

theorem str_app (xs ys : List Int) : strOfNums xs ++ strOfNums ys = strOfNums (xs ++ ys) := by
  apply ByteArray.ext
  rw [ByteArray.data_append]
  simp [strOfNums]
theorem str_nil : (⟨#[]⟩ : ByteArray) = strOfNums [] := rfl
theorem conv1 (w : World) (c : Int) : (convert 33 9 (.slice (some ⟨w.heap.size, 0, none⟩) 1 1)).run Tryd.prog (w.alloc (.cells #[.int .u8 c] 5)) = .ok (.string (strOfNums [c])) (w.alloc (.cells #[.int .u8 c] 5)) := by
  refine run_convert_bytes_arg _ 33 5 Tryd.underlying33 Tryd.underlying5 w.heap.size 0 1 1 [c] rfl (fun i hi => ?_) 9 Tryd.underlying9
  have hi0 : i = 0 := by omega
  subst hi0
  have := (Blk.new w 5 #[.int .u8 c]).cell 0
  exact this

set_option maxRecDepth 100000 in
set_option maxHeartbeats 2000000 in
theorem digits2 (n : Int) (w : World) (h0 : 0 ≤ n) (h1 : n ≤ 100000) :
    Calls Tryd.prog 56 #[.int .i64 n, .int .i64 2] w fun e w' => e = .returned (.string (strOfNums [48 + n / 10 % 10, 48 + n % 10])) ∧ Below w.heap.size w w' := by
  go_enter Tryd.func56, Tryd.ntmps56
  go_wp2
  go_loopw [0, 5, 6] (fun x s c wr => Below w.heap.size w wr ∧ (
      (x = .int .i64 (n) ∧ s = .string (strOfNums []) ∧ c = .int .i64 0) ∨
      (x = .int .i64 (n / 10) ∧ s = .string (strOfNums [48 + n % 10]) ∧ c = .int .i64 1) ∨
      (x = .int .i64 (n / 10 / 10) ∧ s = .string (strOfNums [48 + n / 10 % 10, 48 + n % 10]) ∧ c = .int .i64 2))) (fun _ _ c _ => (2 - intOf c).toNat)
  case atStart => exact ⟨Below.refl _ _, Or.inl ⟨rfl, by rw [← str_nil], rfl⟩⟩
  case round =>
    obtain ⟨hw, hrel⟩ := hrel
    rcases hrel with ⟨rfl, rfl, rfl⟩ | ⟨rfl, rfl, rfl⟩ | ⟨rfl, rfl, rfl⟩
    · have hcv := conv1 wr (48 + n % 10)
      have hs : (strOfNums []).size = 0 := strOfNums_size _
      have ht : (strOfNums [48 + n % 10]).size = 1 := strOfNums_size _
      have HT : Hid (strOfNums [48 + n % 10] ++ strOfNums [] = strOfNums [48 + n % 10]) := str_app _ _
      generalize strOfNums [] = S at *
      generalize strOfNums [48 + n % 10] = C at *
      have hcs : ¬ 9223372036854775807 < C.size + S.size := by omega
      have p0 : 0 ≤ n := by omega
      have p1 : n ≤ 100000 := by omega
      clear hs ht
      go_wp2
      go_roundw
      case rel => exact ⟨hw.alloc hw.size _, Or.inr (Or.inl ⟨rfl, by rw [HT.out], rfl⟩)⟩
      case measure => simp [intOf]
    · have hcv := conv1 wr (48 + n / 10 % 10)
      have hs : (strOfNums [48 + n % 10]).size = 1 := strOfNums_size _
      have ht : (strOfNums [48 + n / 10 % 10]).size = 1 := strOfNums_size _
      have HT : Hid (strOfNums [48 + n / 10 % 10] ++ strOfNums [48 + n % 10] = strOfNums [48 + n / 10 % 10, 48 + n % 10]) := str_app _ _
      generalize strOfNums [48 + n % 10] = S at *
      generalize strOfNums [48 + n / 10 % 10] = C at *
      have hcs : ¬ 9223372036854775807 < C.size + S.size := by omega
      have p0 : 0 ≤ n / 10 := by omega
      have p1 : n / 10 ≤ 100000 := by omega
      clear hs ht
      go_wp2
      go_roundw
      case rel => exact ⟨hw.alloc hw.size _, Or.inr (Or.inr (⟨rfl, by rw [HT.out], rfl⟩))⟩
      case measure => simp [intOf]
    · go_wp2
      go_ret
      exact ⟨rfl, hw⟩

set_option maxRecDepth 100000 in
set_option maxHeartbeats 2000000 in
theorem digits4 (n : Int) (w : World) (h0 : 0 ≤ n) (h1 : n ≤ 100000) :
    Calls Tryd.prog 56 #[.int .i64 n, .int .i64 4] w fun e w' => e = .returned (.string (strOfNums [48 + n / 10 / 10 / 10 % 10, 48 + n / 10 / 10 % 10, 48 + n / 10 % 10, 48 + n % 10])) ∧ Below w.heap.size w w' := by
  go_enter Tryd.func56, Tryd.ntmps56
  go_wp2
  go_loopw [0, 5, 6] (fun x s c wr => Below w.heap.size w wr ∧ (
      (x = .int .i64 (n) ∧ s = .string (strOfNums []) ∧ c = .int .i64 0) ∨
      (x = .int .i64 (n / 10) ∧ s = .string (strOfNums [48 + n % 10]) ∧ c = .int .i64 1) ∨
      (x = .int .i64 (n / 10 / 10) ∧ s = .string (strOfNums [48 + n / 10 % 10, 48 + n % 10]) ∧ c = .int .i64 2) ∨
      (x = .int .i64 (n / 10 / 10 / 10) ∧ s = .string (strOfNums [48 + n / 10 / 10 % 10, 48 + n / 10 % 10, 48 + n % 10]) ∧ c = .int .i64 3) ∨
      (x = .int .i64 (n / 10 / 10 / 10 / 10) ∧ s = .string (strOfNums [48 + n / 10 / 10 / 10 % 10, 48 + n / 10 / 10 % 10, 48 + n / 10 % 10, 48 + n % 10]) ∧ c = .int .i64 4))) (fun _ _ c _ => (4 - intOf c).toNat)
  case atStart => exact ⟨Below.refl _ _, Or.inl ⟨rfl, by rw [← str_nil], rfl⟩⟩
  case round =>
    obtain ⟨hw, hrel⟩ := hrel
    rcases hrel with ⟨rfl, rfl, rfl⟩ | ⟨rfl, rfl, rfl⟩ | ⟨rfl, rfl, rfl⟩ | ⟨rfl, rfl, rfl⟩ | ⟨rfl, rfl, rfl⟩
    · have hcv := conv1 wr (48 + n % 10)
      have hs : (strOfNums []).size = 0 := strOfNums_size _
      have ht : (strOfNums [48 + n % 10]).size = 1 := strOfNums_size _
      have HT : Hid (strOfNums [48 + n % 10] ++ strOfNums [] = strOfNums [48 + n % 10]) := str_app _ _
      generalize strOfNums [] = S at *
      generalize strOfNums [48 + n % 10] = C at *
      have hcs : ¬ 9223372036854775807 < C.size + S.size := by omega
      have p0 : 0 ≤ n := by omega
      have p1 : n ≤ 100000 := by omega
      clear hs ht
      go_wp2
      go_roundw
      case rel => exact ⟨hw.alloc hw.size _, Or.inr (Or.inl ⟨rfl, by rw [HT.out], rfl⟩)⟩
      case measure => simp [intOf]
    · have hcv := conv1 wr (48 + n / 10 % 10)
      have hs : (strOfNums [48 + n % 10]).size = 1 := strOfNums_size _
      have ht : (strOfNums [48 + n / 10 % 10]).size = 1 := strOfNums_size _
      have HT : Hid (strOfNums [48 + n / 10 % 10] ++ strOfNums [48 + n % 10] = strOfNums [48 + n / 10 % 10, 48 + n % 10]) := str_app _ _
      generalize strOfNums [48 + n % 10] = S at *
      generalize strOfNums [48 + n / 10 % 10] = C at *
      have hcs : ¬ 9223372036854775807 < C.size + S.size := by omega
      have p0 : 0 ≤ n / 10 := by omega
      have p1 : n / 10 ≤ 100000 := by omega
      clear hs ht
      go_wp2
      go_roundw
      case rel => exact ⟨hw.alloc hw.size _, Or.inr (Or.inr (Or.inl ⟨rfl, by rw [HT.out], rfl⟩))⟩
      case measure => simp [intOf]
    · have hcv := conv1 wr (48 + n / 10 / 10 % 10)
      have hs : (strOfNums [48 + n / 10 % 10, 48 + n % 10]).size = 2 := strOfNums_size _
      have ht : (strOfNums [48 + n / 10 / 10 % 10]).size = 1 := strOfNums_size _
      have HT : Hid (strOfNums [48 + n / 10 / 10 % 10] ++ strOfNums [48 + n / 10 % 10, 48 + n % 10] = strOfNums [48 + n / 10 / 10 % 10, 48 + n / 10 % 10, 48 + n % 10]) := str_app _ _
      generalize strOfNums [48 + n / 10 % 10, 48 + n % 10] = S at *
      generalize strOfNums [48 + n / 10 / 10 % 10] = C at *
      have hcs : ¬ 9223372036854775807 < C.size + S.size := by omega
      have p0 : 0 ≤ n / 10 / 10 := by omega
      have p1 : n / 10 / 10 ≤ 100000 := by omega
      clear hs ht
      go_wp2
      go_roundw
      case rel => exact ⟨hw.alloc hw.size _, Or.inr (Or.inr (Or.inr (Or.inl ⟨rfl, by rw [HT.out], rfl⟩)))⟩
      case measure => simp [intOf]
    · have hcv := conv1 wr (48 + n / 10 / 10 / 10 % 10)
      have hs : (strOfNums [48 + n / 10 / 10 % 10, 48 + n / 10 % 10, 48 + n % 10]).size = 3 := strOfNums_size _
      have ht : (strOfNums [48 + n / 10 / 10 / 10 % 10]).size = 1 := strOfNums_size _
      have HT : Hid (strOfNums [48 + n / 10 / 10 / 10 % 10] ++ strOfNums [48 + n / 10 / 10 % 10, 48 + n / 10 % 10, 48 + n % 10] = strOfNums [48 + n / 10 / 10 / 10 % 10, 48 + n / 10 / 10 % 10, 48 + n / 10 % 10, 48 + n % 10]) := str_app _ _
      generalize strOfNums [48 + n / 10 / 10 % 10, 48 + n / 10 % 10, 48 + n % 10] = S at *
      generalize strOfNums [48 + n / 10 / 10 / 10 % 10] = C at *
      have hcs : ¬ 9223372036854775807 < C.size + S.size := by omega
      have p0 : 0 ≤ n / 10 / 10 / 10 := by omega
      have p1 : n / 10 / 10 / 10 ≤ 100000 := by omega
      clear hs ht
      go_wp2
      go_roundw
      case rel => exact ⟨hw.alloc hw.size _, Or.inr (Or.inr (Or.inr (Or.inr (⟨rfl, by rw [HT.out], rfl⟩))))⟩
      case measure => simp [intOf]
    · go_wp2
      go_ret
      exact ⟨rfl, hw⟩

set_option maxRecDepth 100000 in
set_option maxHeartbeats 2000000 in
theorem rtext_any (d : Int) (w : World) :
    Calls Tryd.prog 42 #[.int .i64 d] w fun e w' => e = .returned (.string (textV d)) ∧ Below w.heap.size w w' := by
  have HC := hid (fun w1 => rymd_any d w1)
  by_cases h : IsD d
  · have ⟨e1, e2, e3, e4, _, _⟩ := ymd_in h
    rw [e1, e2, e3, e4] at HC
    rw [text_in h]
    have ⟨a1, a2, a3⟩ := date_bd h
    clear e1 e2 e3 e4 h
    generalize d - st (mon d) + 1 = D at *
    generalize yr (mon d) = Y at *
    generalize mo (mon d) = M at *
    have H1 := hid (fun w1 => digits4 Y w1 a1.1 (by omega))
    have H2 := hid (fun w1 => digits2 M w1 a2.1 (by omega))
    have H3 := hid (fun w1 => digits2 D w1 a3.1 (by omega))
    have hd : (⟨#[45]⟩ : ByteArray) = strOfNums [45] := rfl
    have HT : Hid (strOfNums [48 + Y / 10 / 10 / 10 % 10, 48 + Y / 10 / 10 % 10, 48 + Y / 10 % 10, 48 + Y % 10] ++ ⟨#[45]⟩ ++ strOfNums [48 + M / 10 % 10, 48 + M % 10] ++ ⟨#[45]⟩ ++ strOfNums [48 + D / 10 % 10, 48 + D % 10] = strOfNums (txtI Y M D)) := by
      show _ = _; rw [hd, str_app, str_app, str_app, str_app]; rfl
    have s1 : (strOfNums [48 + Y / 10 / 10 / 10 % 10, 48 + Y / 10 / 10 % 10, 48 + Y / 10 % 10, 48 + Y % 10]).size = 4 := strOfNums_size _
    have s2 : (strOfNums [48 + M / 10 % 10, 48 + M % 10]).size = 2 := strOfNums_size _
    have s3 : (strOfNums [48 + D / 10 % 10, 48 + D % 10]).size = 2 := strOfNums_size _
    generalize strOfNums [48 + Y / 10 / 10 / 10 % 10, 48 + Y / 10 / 10 % 10, 48 + Y / 10 % 10, 48 + Y % 10] = A at *
    generalize strOfNums [48 + M / 10 % 10, 48 + M % 10] = B at *
    generalize strOfNums [48 + D / 10 % 10, 48 + D % 10] = C at *
    generalize strOfNums (txtI Y M D) = T at *
    have hk : (⟨#[45]⟩ : ByteArray).size = 1 := rfl
    have z1 : (A ++ ⟨#[45]⟩).size = 5 := by rw [ByteArray.size_append]; omega
    have z2 : (A ++ ⟨#[45]⟩ ++ B).size = 7 := by rw [ByteArray.size_append]; omega
    have z3 : (A ++ ⟨#[45]⟩ ++ B ++ ⟨#[45]⟩).size = 8 := by rw [ByteArray.size_append]; omega
    have q1 : ¬ 9223372036854775807 < A.size + 1 := by omega
    have q2 : ¬ 9223372036854775807 < (A ++ ⟨#[45]⟩).size + B.size := by omega
    have q3 : ¬ 9223372036854775807 < (A ++ ⟨#[45]⟩ ++ B).size + 1 := by omega
    have q4 : ¬ 9223372036854775807 < (A ++ ⟨#[45]⟩ ++ B ++ ⟨#[45]⟩).size + C.size := by omega
    have q5 : ¬ 9223372036854775807 < A.size + 1 + B.size := by omega
    have q6 : ¬ 9223372036854775807 < A.size + 1 + B.size + 1 := by omega
    have q7 : ¬ 9223372036854775807 < A.size + 1 + B.size + 1 + C.size := by omega
    clear a1 a2 a3 s1 s2 s3 hk z1 z2 z3 hd
    have h1 := Below.refl w.heap.size w
    go_enter Tryd.func42, Tryd.ntmps42
    go_wp2_with fail
    refine (HC.out _).mono ?_
    rintro e u ⟨rfl, rfl⟩
    go_wp2_with fail
    refine (H1.out _).mono ?_
    rintro e u1 ⟨rfl, hx⟩; replace h1 := h1.trans (hx.mono h1.size); clear hx
    go_wp2_with fail
    refine (H2.out _).mono ?_
    rintro e u2 ⟨rfl, hx⟩; replace h1 := h1.trans (hx.mono h1.size); clear hx
    go_wp2_with fail
    refine (H3.out _).mono ?_
    rintro e u3 ⟨rfl, hx⟩; replace h1 := h1.trans (hx.mono h1.size); clear hx
    go_wp2_with fail
    rw [HT.out]
    go_ret
    exact ⟨rfl, h1⟩
  · have ⟨e1, e2, e3, e4, _, _⟩ := ymd_out h
    rw [e1, e2, e3, e4] at HC
    rw [text_out h]
    clear e1 e2 e3 e4 h
    go_enter Tryd.func42, Tryd.ntmps42
    go_wp2_with (go_at_call 39; refine (HC.out _).mono ?_; rintro e u ⟨rfl, rfl⟩)
    go_ret
    exact ⟨rfl, Below.refl _ _⟩
end Go.Proofs.YtmpkjooglpomoaaDoor
