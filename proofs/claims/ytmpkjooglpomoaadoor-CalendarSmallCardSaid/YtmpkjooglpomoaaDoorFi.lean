/- CalendarSmall's loops. -/
import Derived.Test.YtmpkjooglpomoaaDoorFg
import Derived.Test.YtmpkjooglpomoaaDoorDi
import Derived.Test.YtmpkjooglpomoaaDoorDh
import Derived.Test.YtmpkjooglpomoaaDoorDa
import Derived.Test.YtmpkjooglpomoaaDoorDc
import Derived.Deep.RegionWith
namespace Go.Proofs.YtmpkjooglpomoaaDoor
open Go.RowKit Go.Lib

theorem tmod_bd (m : Int) {k : Int} (hk : 0 < k) : -k < m.tmod k ∧ m.tmod k < k := ⟨(emod_of hk).2.2.1, (emod_of hk).2.2.2⟩

/-- The numbers at the ends. -/
def endsL : List Int := [-9223372036854775808, -9223372036854775807, -2154, -2153, -1, 0, 1, 2153, 2154, 65534, 65535, 65536, 9223372036854775807]
def en (i : Nat) : Int := endsL.getD i 0
abbrev endsA : Array Value := #[.int .i64 (-9223372036854775808), .int .i64 (-9223372036854775807), .int .i64 (-2154), .int .i64 (-2153), .int .i64 (-1), .int .i64 0, .int .i64 1, .int .i64 2153, .int .i64 2154, .int .i64 65534, .int .i64 65535, .int .i64 65536, .int .i64 9223372036854775807]
theorem ends_at {i : Nat} (h : i < 13) : (endsA)[i]? = some (.int .i64 (en i)) := by
  rcases (by omega : i = 0 ∨ i = 1 ∨ i = 2 ∨ i = 3 ∨ i = 4 ∨ i = 5 ∨ i = 6 ∨ i = 7 ∨ i = 8 ∨ i = 9 ∨ i = 10 ∨ i = 11 ∨ i = 12) with h | h | h | h | h | h | h | h | h | h | h | h | h <;> subst h <;> rfl
theorem en_bd {i : Nat} (h : i < 13) : en i ≤ 9223372036854775807 := by
  rcases (by omega : i = 0 ∨ i = 1 ∨ i = 2 ∨ i = 3 ∨ i = 4 ∨ i = 5 ∨ i = 6 ∨ i = 7 ∨ i = 8 ∨ i = 9 ∨ i = 10 ∨ i = 11 ∨ i = 12) with h | h | h | h | h | h | h | h | h | h | h | h | h <;> subst h <;> decide

theorem conv1d (w : World) (c : Int) : (convert 33 9 (.slice (some ⟨w.heap.size, 0, none⟩) 1 1)).run Tryd.prog (w.alloc (.cells #[.int .u8 c] 5)).drew = .ok (.string (strOfNums [c])) (w.alloc (.cells #[.int .u8 c] 5)).drew := by
  refine run_convert_bytes_arg _ 33 5 Tryd.underlying33 Tryd.underlying5 w.heap.size 0 1 1 [c] rfl (fun i hi => ?_) 9 Tryd.underlying9
  have hi0 : i = 0 := by omega
  subst hi0
  have := ((Blk.new w 5 #[.int .u8 c]).drew).cell 0
  exact this

set_option maxRecDepth 100000 in
set_option maxHeartbeats 20000000 in
theorem small_law {w : World} (hL : Laid w) :
    Calls Tryd.prog 7 #[] w fun e w' => e = .returned (.bool true) ∧ Below w.heap.size w w' := by
  have HL := hid hL
  clear hL
  go_enter Tryd.func7, Tryd.ntmps7
  go_wp2_with fail
  go_loopw [1] (fun c wr => Below w.heap.size w wr ∧ ∃ m : Int, -2 ≤ m ∧ m ≤ 2157 ∧ c = .int .i64 m) (fun c _ => (2157 - intOf c).toNat)
  case atStart => exact ⟨Below.refl _ _, -2, by omega, by omega, rfl⟩
  case round =>
    obtain ⟨h1, m, m0, m1, rfl⟩ := hrel
    by_cases hlt : m < 2157
    · have P1 := hid (fun w1 => pick_any m 2154 w1 (by omega) (by omega))
      have hk := pick_bd m (n := 2154) (by omega)
      have P2 := hid (fun w1 => rfirst_any (m % 2154) w1)
      have hf : 0 ≤ fstV (m % 2154) ∧ fstV (m % 2154) ≤ 65530 := by
        rw [(fst_in ⟨hk.1, hk.2⟩).1]
        have := st_nn hk.1
        have := st_lt (j := m % 2154) (k := 2153) (by omega)
        rw [st_end] at this; omega
      obtain ⟨f0, f1⟩ := hf
      have ⟨t0, t1⟩ := tmod_bd m (k := 29) (by omega)
      have ⟨s0, s1⟩ := tmod_bd m (k := 7) (by omega)
      clear hk
      generalize fstV (m % 2154) = F at *
      generalize fstE (m % 2154) = G at *
      generalize m % 2154 = q at *
      by_cases h7 : m.tmod 7 = 0
      all_goals
        go_wp2_with (first
          | (go_at_call 27; refine (P1.out _).mono ?_; rintro e u ⟨rfl, rfl⟩)
          | (go_at_call 26; refine (P2.out _).mono ?_; rintro e u ⟨rfl, rfl⟩)
          | (go_at_call 22; refine (tells_any _ (HL.out.below h1)).mono ?_; rintro e u ⟨rfl, hx⟩; replace h1 := h1.trans (hx.mono h1.size); clear hx)
          | (go_at_call 23; refine (moves_any _ _ _ (HL.out.below h1)).mono ?_; rintro e u ⟨rfl, hx⟩; replace h1 := h1.trans (hx.mono h1.size); clear hx)
          | fail)
        go_roundw
        case rel => exact ⟨h1, m + 1, by omega, by omega, rfl⟩
        case measure => simp [intOf]; omega
    · go_wp2_with fail
      have hB := Blk.new wr 3 endsA
      have h2 : Below w.heap.size w (wr.alloc (.cells endsA 3)) := h1.alloc h1.size _
      generalize hg : wr.heap.size = g at *
      generalize hW : wr.alloc (.cells endsA 3) = W at *
      clear hg hW h1
      go_loopw [6] (fun c wr => Below w.heap.size w wr ∧ Blk wr g 3 endsA ∧ ∃ i : Nat, i ≤ 13 ∧ c = .int .i64 i) (fun c _ => (13 - intOf c).toNat)
      case atStart => exact ⟨h2, hB, 0, by omega, rfl⟩
      case round =>
        obtain ⟨h1, hB, i, i1, rfl⟩ := hrel
        by_cases hi : i < 13
        · have iz : (i : Int) < 13 := by omega
          go_wp2_with fail
          go_loopw [7] (fun c wr => Below w.heap.size w wr ∧ Blk wr g 3 endsA ∧ ∃ k : Nat, k ≤ 13 ∧ c = .int .i64 k) (fun c _ => (13 - intOf c).toNat)
          case atStart => exact ⟨h1, hB, 0, by omega, rfl⟩
          case round =>
            obtain ⟨h1, hB, k, k1, rfl⟩ := hrel
            by_cases hk : k < 13
            · have kz : (k : Int) < 13 := by omega
              obtain ⟨j, hj⟩ : ∃ j, (i + k) % 13 = j := ⟨_, rfl⟩
              have j1 : j < 13 := by omega
              have hj2 : ((i : Int) + (k : Int)) % 13 = (j : Int) := by omega
              have cI := (hB.cell i).trans (ends_at hi)
              have cK := (hB.cell k).trans (ends_at hk)
              have cJ := (hB.cell j).trans (ends_at j1)
              have HE := hid (And.intro (en_bd hi) (And.intro (en_bd hk) (en_bd j1)))
              generalize en i = ei at *
              generalize en k = ek at *
              generalize en j = ej at *
              have jz : (j : Int) < 13 := by omega
              have hj3 : ((i : Int) + (k : Int)).tmod 13 = (j : Int) := by rw [Int.tmod_eq_emod_of_nonneg (by omega)]; exact hj2
              have e1 : IntKind.i64.wrap ((i : Int) + (k : Int)) = (i : Int) + (k : Int) := IntWalk.i64_in _ (by omega)
              obtain ⟨a, ha⟩ : ∃ a, (i : Int).tmod 2 = a := ⟨_, rfl⟩
              have ha0 : 0 ≤ a ∧ a ≤ 1 := by rw [← ha, Int.tmod_eq_emod_of_nonneg (by omega)]; omega
              obtain ⟨a0, a1⟩ := ha0
              obtain ⟨b, hb⟩ : ∃ b, (i : Int).tmod 4 = b := ⟨_, rfl⟩
              have hb0 : 0 ≤ b ∧ b ≤ 3 := by rw [← hb, Int.tmod_eq_emod_of_nonneg (by omega)]; omega
              obtain ⟨b0, b1⟩ := hb0
              have ha2 : (i : Int) % 2 = a := by rw [← ha, Int.tmod_eq_emod_of_nonneg (by omega)]
              have hb2 : (i : Int) % 4 = b := by rw [← hb, Int.tmod_eq_emod_of_nonneg (by omega)]
              have e2 : IntKind.i64.wrap (180 * a) = 180 * a := IntWalk.i64_in _ (by omega)
              have e3 : IntKind.i64.wrap (1900 + 180 * a) = 1900 + 180 * a := IntWalk.i64_in _ (by omega)
              have e4 : IntKind.i64.wrap (1 + (k : Int)) = 1 + (k : Int) := IntWalk.i64_in _ (by omega)
              have e5 : IntKind.i64.wrap (29 + b) = 29 + b := IntWalk.i64_in _ (by omega)
              clear hj
              have hlt := hB.lt
              go_wp2_with fail
              replace h1 := h1.drew
              replace hB := hB.drew
              replace hlt : g < wr.drew.heap.size := hlt
              replace cI := cell_drew cI
              replace cK := cell_drew cK
              replace cJ := cell_drew cJ
              go_region_held3 (fun w' => w'.cell? ⟨g, i, none⟩ = some (.int .i64 ei) ∧ w'.cell? ⟨g, k, none⟩ = some (.int .i64 ek) ∧ w'.cell? ⟨g, j, none⟩ = some (.int .i64 ej))
                (first | (with_reducible exact ⟨cI, cK, cJ⟩))
                (first
                  | (go_at_call 23; refine (moves_any _ _ _ (HL.out.below h1)).mono ?_; rintro e u ⟨rfl, hx⟩; replace cI := (hx.cell (p := ⟨g, i, none⟩) hlt).trans cI; replace cK := (hx.cell (p := ⟨g, k, none⟩) hlt).trans cK; replace cJ := (hx.cell (p := ⟨g, j, none⟩) hlt).trans cJ; replace h1 := h1.trans (hx.mono h1.size); replace hB := hB.below hx hlt; replace hlt := Nat.lt_of_lt_of_le hlt hx.size; clear hx)
                  | (go_at_call 3; refine (days_law _ _ _ (HL.out.below h1) (by first | omega | exact HE.out.2.1)).mono ?_; rintro e u ⟨rfl, hx⟩; replace cI := (hx.cell (p := ⟨g, i, none⟩) hlt).trans cI; replace cK := (hx.cell (p := ⟨g, k, none⟩) hlt).trans cK; replace cJ := (hx.cell (p := ⟨g, j, none⟩) hlt).trans cJ; replace h1 := h1.trans (hx.mono h1.size); replace hB := hB.below hx hlt; replace hlt := Nat.lt_of_lt_of_le hlt hx.size; clear hx))
              clear cI cK cJ
              go_wp2_with fail
              go_roundw
              case rel => exact ⟨h1, hB, k + 1, by omega, by go_num⟩
              case measure => simp [intOf]; omega
            · go_wp2_with fail
              go_roundw
              case rel => exact ⟨h1, hB, i + 1, by omega, by go_num⟩
              case measure => simp [intOf]; omega
        · go_wp2_with fail
          clear hB
          --TAIL
          have hSz : (⟨#[50, 48, 48, 48, 45, 48, 50, 45, 50, 57]⟩ : ByteArray).size = 10 := rfl
          generalize (⟨#[50, 48, 48, 48, 45, 48, 50, 45, 50, 57]⟩ : ByteArray) = S at *
          go_loopw [9] (fun c wr => Below w.heap.size w wr ∧ ∃ p : Nat, p ≤ 10 ∧ c = .int .i64 p) (fun c _ => (10 - intOf c).toNat)
          case atStart => exact ⟨h1, 0, by omega, rfl⟩
          case round =>
            obtain ⟨h1, p, p1, rfl⟩ := hrel
            by_cases hp : p < 10
            · have pz : (p : Int) < 10 := by omega
              go_wp2_with fail
              go_loopw [10] (fun c wr => Below w.heap.size w wr ∧ ∃ q : Nat, q ≤ 256 ∧ c = .int .i64 q) (fun c _ => (256 - intOf c).toNat)
              case atStart => exact ⟨h1, 0, by omega, rfl⟩
              case round =>
                obtain ⟨h1, q, q1, rfl⟩ := hrel
                by_cases hq : q < 256
                · have qz : (q : Int) < 256 := by omega
                  have hcv := conv1d wr (q : Int)
                  have pz2 : (p : Int) ≤ 10 := by omega
                  have e8 : IntKind.u8.wrap (q : Int) = (q : Int) := IntWalk.u8_in _ (by omega)
                  have s1 : (S.extract 0 p).size = p := by rw [extract_size S 0 p (by omega)]; omega
                  have s2 : (S.extract (p + 1) 10).size = 9 - p := by rw [extract_size S (p + 1) 10 (by omega)]; omega
                  have s3 : (strOfNums [(q : Int)]).size = 1 := strOfNums_size _
                  obtain ⟨A, hA⟩ : ∃ A, S.extract 0 p = A := ⟨_, rfl⟩
                  obtain ⟨C, hC⟩ : ∃ C, S.extract (p + 1) 10 = C := ⟨_, rfl⟩
                  generalize strOfNums [(q : Int)] = D at *
                  rw [hA] at s1
                  rw [hC] at s2
                  have z1 : (A ++ D).size = p + 1 := by rw [ByteArray.size_append]; omega
                  have z2 : (A ++ D ++ C).size = 10 := by rw [ByteArray.size_append]; omega
                  have q2 : ¬ 9223372036854775807 < A.size + D.size := by omega
                  have q3 : ¬ 9223372036854775807 < (A ++ D).size + C.size := by omega
                  have q4 : ¬ 9223372036854775807 < A.size + D.size + C.size := by omega
                  have HZ := hid z2
                  have epq : IntKind.i64.wrap ((p : Int) + 1) = (p : Int) + 1 := IntWalk.i64_in _ (by omega)
                  have epn : ((p : Int) + 1).toNat = p + 1 := by omega
                  have ep0 : (0 : Int) ≤ (p : Int) + 1 := by omega
                  have ep1 : (p : Int) + 1 ≤ 10 := by omega
                  clear s1 s2 s3 z1 z2
                  go_wp2_with fail
                  have ha2 : Below w.heap.size w (wr.alloc (.cells #[.int .u8 (q : Int)] 5)).drew := (h1.alloc h1.size _).drew
                  clear h1
                  go_region_with (go_at_call 6; refine (reads_law _ (HL.out.below ha2) (by rw [HZ.out]; omega)).mono ?_; rintro e u ⟨rfl, hx⟩; have h9 := ha2.trans (hx.mono ha2.size); clear hx)
                  go_wp2_with fail
                  go_roundw
                  case rel => exact ⟨h9, q + 1, by omega, by go_num⟩
                  case measure => simp [intOf]; omega
                · have qz : ¬ (q : Int) < 256 := by omega
                  have pz2 : (p : Int) ≤ 10 := by omega
                  have s1 : (S.extract 0 p).size = p := by rw [extract_size S 0 p (by omega)]; omega
                  have s2 : (S.extract p 10).size = 10 - p := extract_size S p 10 (by omega)
                  obtain ⟨A, hA⟩ : ∃ A, S.extract 0 p = A := ⟨_, rfl⟩
                  obtain ⟨C, hC⟩ : ∃ C, S.extract p 10 = C := ⟨_, rfl⟩
                  rw [hA] at s1
                  rw [hC] at s2
                  have z0 : (⟨#[48]⟩ : ByteArray).size = 1 := rfl
                  have z1 : (A ++ ⟨#[48]⟩).size = p + 1 := by rw [ByteArray.size_append]; omega
                  have z2 : (A ++ ⟨#[48]⟩ ++ C).size = 11 := by rw [ByteArray.size_append]; omega
                  have q2 : ¬ 9223372036854775807 < A.size + 1 := by omega
                  have q3 : ¬ 9223372036854775807 < (A ++ ⟨#[48]⟩).size + C.size := by omega
                  have q4 : ¬ 9223372036854775807 < A.size + 1 + C.size := by omega
                  have HZ : Hid (A.size ≤ 9223372036854775807 ∧ C.size ≤ 9223372036854775807 ∧ (A ++ ⟨#[48]⟩ ++ C).size ≤ 9223372036854775807) := ⟨by omega, by omega, by omega⟩
                  clear s1 s2 z0 z1 z2
                  go_wp2_with fail
                  replace h1 := h1.drew
                  go_region_held3 (fun w' => 0 ≤ w'.heap.size) (exact Nat.zero_le _)
                    (first
                      | (go_at_call 6; refine (reads_law _ (HL.out.below h1) (by first | (with_reducible exact HZ.out.1) | (with_reducible exact HZ.out.2.1) | (with_reducible exact HZ.out.2.2))).mono ?_; rintro e u ⟨rfl, hx⟩; replace h1 := h1.trans (hx.mono h1.size); clear hx))
                  go_wp2_with fail
                  go_roundw
                  case rel => exact ⟨h1, p + 1, by omega, by go_num⟩
                  case measure => simp [intOf]; omega
            · clear hSz
              go_wp2_with fail
              refine (reads_law _ (HL.out.below h1) (by decide)).mono ?_
              rintro e u ⟨rfl, hx⟩; replace h1 := h1.trans (hx.mono h1.size); clear hx
              go_wp2_with fail
              refine (reads_law _ (HL.out.below h1) (by decide)).mono ?_
              rintro e u ⟨rfl, hx⟩; replace h1 := h1.trans (hx.mono h1.size); clear hx
              go_wp2_with fail
              refine (reads_law _ (HL.out.below h1) (by decide)).mono ?_
              rintro e u ⟨rfl, hx⟩; replace h1 := h1.trans (hx.mono h1.size); clear hx
              go_wp2_with fail
              refine (reads_law _ (HL.out.below h1) (by decide)).mono ?_
              rintro e u ⟨rfl, hx⟩; replace h1 := h1.trans (hx.mono h1.size); clear hx
              go_wp2_with fail
              refine (reads_law _ (HL.out.below h1) (by decide)).mono ?_
              rintro e u ⟨rfl, hx⟩; replace h1 := h1.trans (hx.mono h1.size); clear hx
              go_wp2_with fail
              refine (awake_any (HL.out.below h1)).mono ?_
              rintro e u ⟨rfl, hx⟩; replace h1 := h1.trans (hx.mono h1.size); clear hx
              go_wp2_with fail
              go_ret
              exact ⟨rfl, h1⟩
end Go.Proofs.YtmpkjooglpomoaaDoor
