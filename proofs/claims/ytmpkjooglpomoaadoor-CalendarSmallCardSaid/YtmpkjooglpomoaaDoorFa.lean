/- The parts of a text, read. -/
import Derived.Test.YtmpkjooglpomoaaDoorCf
import Derived.Test.YtmpkjooglpomoaaDoorBlk
namespace Go.Proofs.YtmpkjooglpomoaaDoor
open Go.RowKit Go.Lib

theorem Laid.belowB {B : Nat} {w w' : World} (h : Laid w) (hb : Below B w w') (hB : 2 ≤ B) : Laid w' := by
  have e : ∀ b o, b < 2 → w'.cell? ⟨b, o, none⟩ = w.cell? ⟨b, o, none⟩ := fun b o hlt => hb.cell (p := ⟨b, o, none⟩) (Nat.lt_of_lt_of_le hlt hB)
  refine ⟨Nat.le_trans h.size hb.size, ?_, ?_⟩
  · have := h.len; simpa only [e 0 _ (by omega)] using this
  · have := h.fld; simpa only [e 1 _ (by omega)] using this

theorem blk_ne {w : World} {g g' : Nat} {t t' : TypeId} {cs cs' : Array Value} (h : Blk w g t cs) (h' : Blk w g' t' cs') (hne : t ≠ t') : g ≠ g' := by
  rintro rfl
  unfold Blk at h h'
  rw [h] at h'
  injection h' with h'
  injection h' with _ h2 _
  exact hne h2

/-- What lies in memory while the parts are read. -/
structure RAt (B T y m d gs : Nat) (w wr : World) (bs : Array Value) (vy vm vd : Int) : Prop where
  bw : Below B w wr
  bt : Blk wr T 44 bs
  bp : Blk wr gs 46 #[.pointer (some ⟨y, 0, none⟩), .pointer (some ⟨m, 0, none⟩), .pointer (some ⟨d, 0, none⟩)]
  by_ : Blk wr y 3 #[.int .i64 vy]
  bm : Blk wr m 3 #[.int .i64 vm]
  bd : Blk wr d 3 #[.int .i64 vd]
section
variable {B T y m d gs : Nat} {w wr : World} {bs : Array Value} {vy vm vd : Int} (h : RAt B T y m d gs w wr bs vy vm vd)
include h
theorem RAt.new (o : Obj) (hB : B ≤ w.heap.size) : RAt B T y m d gs w (wr.alloc o) bs vy vm vd :=
  ⟨h.bw.alloc (Nat.le_trans hB h.bw.size) _, h.bt.alloc _, h.bp.alloc _, h.by_.alloc _, h.bm.alloc _, h.bd.alloc _⟩
theorem RAt.putY (v : Int) (hy : B ≤ y) (h1 : m ≠ y) (h2 : d ≠ y) : RAt B T y m d gs w (wr.setCell ⟨y, 0, none⟩ (.int .i64 v)) bs v vm vd :=
  ⟨h.bw.setCell hy _, h.bt.far (blk_ne h.bt h.by_ (by decide)) _, h.bp.far (blk_ne h.bp h.by_ (by decide)) _, h.by_.set_ 0 _, h.bm.far h1 _, h.bd.far h2 _⟩
theorem RAt.putM (v : Int) (hm : B ≤ m) (h1 : y ≠ m) (h2 : d ≠ m) : RAt B T y m d gs w (wr.setCell ⟨m, 0, none⟩ (.int .i64 v)) bs vy v vd :=
  ⟨h.bw.setCell hm _, h.bt.far (blk_ne h.bt h.bm (by decide)) _, h.bp.far (blk_ne h.bp h.bm (by decide)) _, h.by_.far h1 _, h.bm.set_ 0 _, h.bd.far h2 _⟩
theorem RAt.putD (v : Int) (hd : B ≤ d) (h1 : y ≠ d) (h2 : m ≠ d) : RAt B T y m d gs w (wr.setCell ⟨d, 0, none⟩ (.int .i64 v)) bs vy vm v :=
  ⟨h.bw.setCell hd _, h.bt.far (blk_ne h.bt h.bd (by decide)) _, h.bp.far (blk_ne h.bp h.bd (by decide)) _, h.by_.far h1 _, h.bm.far h2 _, h.bd.set_ 0 _⟩
end
/-- A digit's byte. -/
def Dig (b : Int) : Prop := 48 ≤ b ∧ b ≤ 57
def num2 (a b : Int) : Int := (a - 48) * 10 + (b - 48)
def num4 (a b c e : Int) : Int := (num2 a b * 10 + (c - 48)) * 10 + (e - 48)
/-- The form of a text of ten bytes. -/
def TOk (b0 b1 b2 b3 b4 b5 b6 b7 b8 b9 : Int) : Prop := (((Dig b0 ∧ Dig b1 ∧ Dig b2 ∧ Dig b3) ∧ b4 = 45) ∧ ((Dig b5 ∧ Dig b6) ∧ b7 = 45)) ∧ (Dig b8 ∧ Dig b9)
def Pre1 (b0 b1 b2 b3 b4 : Int) : Prop := (Dig b0 ∧ Dig b1 ∧ Dig b2 ∧ Dig b3) ∧ b4 = 45
def Pre2 (b0 b1 b2 b3 b4 b5 b6 b7 : Int) : Prop := ((Dig b0 ∧ Dig b1 ∧ Dig b2 ∧ Dig b3) ∧ b4 = 45) ∧ ((Dig b5 ∧ Dig b6) ∧ b7 = 45)
/-- What reading leaves. -/
def ReadPost (B y m d : Nat) (w : World) (b0 b1 b2 b3 b4 b5 b6 b7 b8 b9 : Int) (e : Ending) (w' : World) : Prop :=
  Below B w w' ∧ ((TOk b0 b1 b2 b3 b4 b5 b6 b7 b8 b9 ∧ e = .returned (.bool true) ∧ Blk w' y 3 #[.int .i64 (num4 b0 b1 b2 b3)] ∧ Blk w' m 3 #[.int .i64 (num2 b5 b6)] ∧ Blk w' d 3 #[.int .i64 (num2 b8 b9)]) ∨
    (¬ TOk b0 b1 b2 b3 b4 b5 b6 b7 b8 b9 ∧ e = .returned (.bool false)))

set_option maxRecDepth 100000 in
set_option maxHeartbeats 20000000 in
theorem read_any (B y m d gs : Nat) (b0 b1 b2 b3 b4 b5 b6 b7 b8 b9 : Int) {w : World} (hL : Laid w) (hB : 2 ≤ B) (hy : B ≤ y) (hm : B ≤ m) (hd : B ≤ d) (nym : y ≠ m) (nyd : y ≠ d) (nmd : m ≠ d)
    (hp : Blk w gs 46 #[.pointer (some ⟨y, 0, none⟩), .pointer (some ⟨m, 0, none⟩), .pointer (some ⟨d, 0, none⟩)]) (by_ : Blk w y 3 #[.int .i64 0]) (bm : Blk w m 3 #[.int .i64 0]) (bd : Blk w d 3 #[.int .i64 0]) :
    Calls Tryd.prog 46 #[.agg #[.int .u8 b0, .int .u8 b1, .int .u8 b2, .int .u8 b3, .int .u8 b4, .int .u8 b5, .int .u8 b6, .int .u8 b7, .int .u8 b8, .int .u8 b9], .slice (some ⟨gs, 0, none⟩) 3 3] w (ReadPost B y m d w b0 b1 b2 b3 b4 b5 b6 b7 b8 b9) := by
  have HL := hid hL
  have HB := hid hB
  have HD := hid (And.intro hy (And.intro hm hd))
  have HN := hid (And.intro nym (And.intro nyd nmd))
  have hBs : Hid (B ≤ w.heap.size) := Nat.le_trans hy (Nat.le_of_lt by_.lt)
  have HR : Hid (RAt B w.heap.size y m d gs w (w.alloc (.cells #[.int .u8 b0, .int .u8 b1, .int .u8 b2, .int .u8 b3, .int .u8 b4, .int .u8 b5, .int .u8 b6, .int .u8 b7, .int .u8 b8, .int .u8 b9] 44)) #[.int .u8 b0, .int .u8 b1, .int .u8 b2, .int .u8 b3, .int .u8 b4, .int .u8 b5, .int .u8 b6, .int .u8 b7, .int .u8 b8, .int .u8 b9] 0 0 0) := ⟨(Below.refl _ _).alloc hBs.out _, Blk.new _ _ _, hp.alloc _, by_.alloc _, bm.alloc _, bd.alloc _⟩
  clear hL hB hy hm hd nym nyd nmd hp by_ bm bd
  go_enter Tryd.func46, Tryd.ntmps46
  go_wp2
  go_loopw [12] (fun c wr =>
      (c = .int .i64 0 ∧ Hid (True) ∧ RAt B w.heap.size y m d gs w wr #[.int .u8 b0, .int .u8 b1, .int .u8 b2, .int .u8 b3, .int .u8 b4, .int .u8 b5, .int .u8 b6, .int .u8 b7, .int .u8 b8, .int .u8 b9] 0 0 0) ∨
      (c = .int .i64 1 ∧ Hid (Pre1 b0 b1 b2 b3 b4) ∧ RAt B w.heap.size y m d gs w wr #[.int .u8 b0, .int .u8 b1, .int .u8 b2, .int .u8 b3, .int .u8 b4, .int .u8 b5, .int .u8 b6, .int .u8 b7, .int .u8 b8, .int .u8 b9] (num4 b0 b1 b2 b3) 0 0) ∨
      (c = .int .i64 2 ∧ Hid (Pre2 b0 b1 b2 b3 b4 b5 b6 b7) ∧ RAt B w.heap.size y m d gs w wr #[.int .u8 b0, .int .u8 b1, .int .u8 b2, .int .u8 b3, .int .u8 b4, .int .u8 b5, .int .u8 b6, .int .u8 b7, .int .u8 b8, .int .u8 b9] (num4 b0 b1 b2 b3) (num2 b5 b6) 0) ∨
      (c = .int .i64 3 ∧ Hid (TOk b0 b1 b2 b3 b4 b5 b6 b7 b8 b9) ∧ RAt B w.heap.size y m d gs w wr #[.int .u8 b0, .int .u8 b1, .int .u8 b2, .int .u8 b3, .int .u8 b4, .int .u8 b5, .int .u8 b6, .int .u8 b7, .int .u8 b8, .int .u8 b9] (num4 b0 b1 b2 b3) (num2 b5 b6) (num2 b8 b9)))
    (fun c _ => (3 - intOf c).toNat)
  case atStart => exact Or.inl ⟨rfl, trivial, HR.out⟩
  case round =>
    rcases hrel with ⟨rfl, HP, hw⟩ | ⟨rfl, HP, hw⟩ | ⟨rfl, HP, hw⟩ | ⟨rfl, HP, hw⟩
    · have hL := HL.out.belowB hw.bw HB.out
      have q0 := (hw.bp.cell 0).trans (b := some (Value.pointer (some ⟨y, 0, none⟩))) rfl
      obtain ⟨c0, c1, c2, c3, c4, c5⟩ := hL.fld
      clear hL
      go_wp2_with fail
      clear q0 c0 c1 c2 c3 c4 c5
      go_loopw [26] (fun j wi => Blk wi wr.heap.size 56 #[.int .i64 0, .int .i64 4] ∧ (
              (j = .int .i64 0 ∧ Hid (True) ∧ ∃ v, Hid (v = 0) ∧ 0 ≤ v ∧ v ≤ 0 ∧ RAt B w.heap.size y m d gs w wi #[.int .u8 b0, .int .u8 b1, .int .u8 b2, .int .u8 b3, .int .u8 b4, .int .u8 b5, .int .u8 b6, .int .u8 b7, .int .u8 b8, .int .u8 b9] v 0 0) ∨
              (j = .int .i64 1 ∧ Hid (Dig b0) ∧ ∃ v, Hid (v = b0 - 48) ∧ 0 ≤ v ∧ v ≤ 9 ∧ RAt B w.heap.size y m d gs w wi #[.int .u8 b0, .int .u8 b1, .int .u8 b2, .int .u8 b3, .int .u8 b4, .int .u8 b5, .int .u8 b6, .int .u8 b7, .int .u8 b8, .int .u8 b9] v 0 0) ∨
              (j = .int .i64 2 ∧ Hid (Dig b0 ∧ Dig b1) ∧ ∃ v, Hid (v = num2 b0 b1) ∧ 0 ≤ v ∧ v ≤ 99 ∧ RAt B w.heap.size y m d gs w wi #[.int .u8 b0, .int .u8 b1, .int .u8 b2, .int .u8 b3, .int .u8 b4, .int .u8 b5, .int .u8 b6, .int .u8 b7, .int .u8 b8, .int .u8 b9] v 0 0) ∨
              (j = .int .i64 3 ∧ Hid (Dig b0 ∧ Dig b1 ∧ Dig b2) ∧ ∃ v, Hid (v = (num2 b0 b1) * 10 + (b2 - 48)) ∧ 0 ≤ v ∧ v ≤ 999 ∧ RAt B w.heap.size y m d gs w wi #[.int .u8 b0, .int .u8 b1, .int .u8 b2, .int .u8 b3, .int .u8 b4, .int .u8 b5, .int .u8 b6, .int .u8 b7, .int .u8 b8, .int .u8 b9] v 0 0) ∨
              (j = .int .i64 4 ∧ Hid (Dig b0 ∧ Dig b1 ∧ Dig b2 ∧ Dig b3) ∧ ∃ v, Hid (v = ((num2 b0 b1) * 10 + (b2 - 48)) * 10 + (b3 - 48)) ∧ 0 ≤ v ∧ v ≤ 9999 ∧ RAt B w.heap.size y m d gs w wi #[.int .u8 b0, .int .u8 b1, .int .u8 b2, .int .u8 b3, .int .u8 b4, .int .u8 b5, .int .u8 b6, .int .u8 b7, .int .u8 b8, .int .u8 b9] v 0 0))) (fun j _ => (4 - intOf j).toNat)
      case atStart => exact ⟨Blk.new _ _ _, Or.inl ⟨rfl, trivial, 0, rfl, by omega, by omega, hw.new _ hBs.out⟩⟩
      case round =>
        obtain ⟨hpl, hrel⟩ := hrel
        rcases hrel with ⟨rfl, HQ, v, HV, v0, v1, hi⟩ | ⟨rfl, HQ, v, HV, v0, v1, hi⟩ | ⟨rfl, HQ, v, HV, v0, v1, hi⟩ | ⟨rfl, HQ, v, HV, v0, v1, hi⟩ | ⟨rfl, HQ, v, HV, v0, v1, hi⟩
        · have qb := (hi.bt.cell 0).trans (b := some (Value.int .u8 b0)) rfl
          have qv := (hi.by_.cell 0).trans (b := some (Value.int .i64 v)) rfl
          have qf := hi.by_.frozen 0
          by_cases g1 : b0 < 48
          · have hno : Hid (¬ TOk b0 b1 b2 b3 b4 b5 b6 b7 b8 b9) := fun h => by have := (h.1.1.1.1).1; omega
            go_wp2_with fail
            go_ret
            exact ⟨hi.bw, Or.inr ⟨hno.out, rfl⟩⟩
          by_cases g2 : 57 < b0
          · have hno : Hid (¬ TOk b0 b1 b2 b3 b4 b5 b6 b7 b8 b9) := fun h => by have := (h.1.1.1.1).2; omega
            go_wp2_with fail
            go_ret
            exact ⟨hi.bw, Or.inr ⟨hno.out, rfl⟩⟩
          have d1 : 48 ≤ b0 := by omega
          have d2 : b0 ≤ 57 := by omega
          go_wp2_with fail
          go_roundw
          case rel => exact ⟨hpl.far (blk_ne hpl hi.by_ (by decide)) _, Or.inr (Or.inl ⟨rfl, ⟨d1, d2⟩, _, (by show _ = _; rw [HV.out] <;> first | rfl | omega), by omega, by omega, hi.putY _ HD.out.1 (Ne.symm HN.out.1) (Ne.symm HN.out.2.1)⟩)⟩
          case measure => simp [intOf]
        · have qb := (hi.bt.cell 1).trans (b := some (Value.int .u8 b1)) rfl
          have qv := (hi.by_.cell 0).trans (b := some (Value.int .i64 v)) rfl
          have qf := hi.by_.frozen 0
          by_cases g1 : b1 < 48
          · have hno : Hid (¬ TOk b0 b1 b2 b3 b4 b5 b6 b7 b8 b9) := fun h => by have := (h.1.1.1.2.1).1; omega
            go_wp2_with fail
            go_ret
            exact ⟨hi.bw, Or.inr ⟨hno.out, rfl⟩⟩
          by_cases g2 : 57 < b1
          · have hno : Hid (¬ TOk b0 b1 b2 b3 b4 b5 b6 b7 b8 b9) := fun h => by have := (h.1.1.1.2.1).2; omega
            go_wp2_with fail
            go_ret
            exact ⟨hi.bw, Or.inr ⟨hno.out, rfl⟩⟩
          have d1 : 48 ≤ b1 := by omega
          have d2 : b1 ≤ 57 := by omega
          go_wp2_with fail
          go_roundw
          case rel => exact ⟨hpl.far (blk_ne hpl hi.by_ (by decide)) _, Or.inr (Or.inr (Or.inl ⟨rfl, ⟨HQ.out, ⟨d1, d2⟩⟩, _, (by show _ = _; rw [HV.out] <;> first | rfl | omega), by omega, by omega, hi.putY _ HD.out.1 (Ne.symm HN.out.1) (Ne.symm HN.out.2.1)⟩))⟩
          case measure => simp [intOf]
        · have qb := (hi.bt.cell 2).trans (b := some (Value.int .u8 b2)) rfl
          have qv := (hi.by_.cell 0).trans (b := some (Value.int .i64 v)) rfl
          have qf := hi.by_.frozen 0
          by_cases g1 : b2 < 48
          · have hno : Hid (¬ TOk b0 b1 b2 b3 b4 b5 b6 b7 b8 b9) := fun h => by have := (h.1.1.1.2.2.1).1; omega
            go_wp2_with fail
            go_ret
            exact ⟨hi.bw, Or.inr ⟨hno.out, rfl⟩⟩
          by_cases g2 : 57 < b2
          · have hno : Hid (¬ TOk b0 b1 b2 b3 b4 b5 b6 b7 b8 b9) := fun h => by have := (h.1.1.1.2.2.1).2; omega
            go_wp2_with fail
            go_ret
            exact ⟨hi.bw, Or.inr ⟨hno.out, rfl⟩⟩
          have d1 : 48 ≤ b2 := by omega
          have d2 : b2 ≤ 57 := by omega
          go_wp2_with fail
          go_roundw
          case rel => exact ⟨hpl.far (blk_ne hpl hi.by_ (by decide)) _, Or.inr (Or.inr (Or.inr (Or.inl ⟨rfl, ⟨HQ.out.1, HQ.out.2, ⟨d1, d2⟩⟩, _, (by show _ = _; rw [HV.out] <;> first | rfl | omega), by omega, by omega, hi.putY _ HD.out.1 (Ne.symm HN.out.1) (Ne.symm HN.out.2.1)⟩)))⟩
          case measure => simp [intOf]
        · have qb := (hi.bt.cell 3).trans (b := some (Value.int .u8 b3)) rfl
          have qv := (hi.by_.cell 0).trans (b := some (Value.int .i64 v)) rfl
          have qf := hi.by_.frozen 0
          by_cases g1 : b3 < 48
          · have hno : Hid (¬ TOk b0 b1 b2 b3 b4 b5 b6 b7 b8 b9) := fun h => by have := (h.1.1.1.2.2.2).1; omega
            go_wp2_with fail
            go_ret
            exact ⟨hi.bw, Or.inr ⟨hno.out, rfl⟩⟩
          by_cases g2 : 57 < b3
          · have hno : Hid (¬ TOk b0 b1 b2 b3 b4 b5 b6 b7 b8 b9) := fun h => by have := (h.1.1.1.2.2.2).2; omega
            go_wp2_with fail
            go_ret
            exact ⟨hi.bw, Or.inr ⟨hno.out, rfl⟩⟩
          have d1 : 48 ≤ b3 := by omega
          have d2 : b3 ≤ 57 := by omega
          go_wp2_with fail
          go_roundw
          case rel => exact ⟨hpl.far (blk_ne hpl hi.by_ (by decide)) _, Or.inr (Or.inr (Or.inr (Or.inr (⟨rfl, ⟨HQ.out.1, HQ.out.2.1, HQ.out.2.2, ⟨d1, d2⟩⟩, _, (by show _ = _; rw [HV.out] <;> first | rfl | omega), by omega, by omega, hi.putY _ HD.out.1 (Ne.symm HN.out.1) (Ne.symm HN.out.2.1)⟩))))⟩
          case measure => simp [intOf]
        · have pt := (hpl.cell 1).trans (b := some (Value.int .i64 4)) rfl
          have qs := (hi.bt.cell 4).trans (b := some (Value.int .u8 b4)) rfl
          by_cases g1 : b4 = 45
          · have HP1 := hid (show Pre1 b0 b1 b2 b3 b4 from ⟨HQ.out, g1⟩)
            have hv2 : v = num4 b0 b1 b2 b3 := HV.out
            subst hv2
            subst g1
            go_wp2_with fail
            go_roundw
            case rel => exact Or.inr (Or.inl ⟨rfl, HP1.out, hi⟩)
            case measure => simp [intOf]
          · have hno : Hid (¬ TOk b0 b1 b2 b3 b4 b5 b6 b7 b8 b9) := fun h => g1 (h.1.1.2)
            go_wp2_with fail
            go_ret
            exact ⟨hi.bw, Or.inr ⟨hno.out, rfl⟩⟩
    · have hL := HL.out.belowB hw.bw HB.out
      have q0 := (hw.bp.cell 1).trans (b := some (Value.pointer (some ⟨m, 0, none⟩))) rfl
      obtain ⟨c0, c1, c2, c3, c4, c5⟩ := hL.fld
      clear hL
      go_wp2_with fail
      clear q0 c0 c1 c2 c3 c4 c5
      go_loopw [26] (fun j wi => Blk wi wr.heap.size 56 #[.int .i64 5, .int .i64 7] ∧ (
              (j = .int .i64 0 ∧ Hid (True) ∧ ∃ v, Hid (v = 0) ∧ 0 ≤ v ∧ v ≤ 0 ∧ RAt B w.heap.size y m d gs w wi #[.int .u8 b0, .int .u8 b1, .int .u8 b2, .int .u8 b3, .int .u8 b4, .int .u8 b5, .int .u8 b6, .int .u8 b7, .int .u8 b8, .int .u8 b9] (num4 b0 b1 b2 b3) v 0) ∨
              (j = .int .i64 1 ∧ Hid (Dig b5) ∧ ∃ v, Hid (v = b5 - 48) ∧ 0 ≤ v ∧ v ≤ 9 ∧ RAt B w.heap.size y m d gs w wi #[.int .u8 b0, .int .u8 b1, .int .u8 b2, .int .u8 b3, .int .u8 b4, .int .u8 b5, .int .u8 b6, .int .u8 b7, .int .u8 b8, .int .u8 b9] (num4 b0 b1 b2 b3) v 0) ∨
              (j = .int .i64 2 ∧ Hid (Dig b5 ∧ Dig b6) ∧ ∃ v, Hid (v = num2 b5 b6) ∧ 0 ≤ v ∧ v ≤ 99 ∧ RAt B w.heap.size y m d gs w wi #[.int .u8 b0, .int .u8 b1, .int .u8 b2, .int .u8 b3, .int .u8 b4, .int .u8 b5, .int .u8 b6, .int .u8 b7, .int .u8 b8, .int .u8 b9] (num4 b0 b1 b2 b3) v 0))) (fun j _ => (2 - intOf j).toNat)
      case atStart => exact ⟨Blk.new _ _ _, Or.inl ⟨rfl, trivial, 0, rfl, by omega, by omega, hw.new _ hBs.out⟩⟩
      case round =>
        obtain ⟨hpl, hrel⟩ := hrel
        rcases hrel with ⟨rfl, HQ, v, HV, v0, v1, hi⟩ | ⟨rfl, HQ, v, HV, v0, v1, hi⟩ | ⟨rfl, HQ, v, HV, v0, v1, hi⟩
        · have qb := (hi.bt.cell 5).trans (b := some (Value.int .u8 b5)) rfl
          have qv := (hi.bm.cell 0).trans (b := some (Value.int .i64 v)) rfl
          have qf := hi.bm.frozen 0
          by_cases g1 : b5 < 48
          · have hno : Hid (¬ TOk b0 b1 b2 b3 b4 b5 b6 b7 b8 b9) := fun h => by have := (h.1.2.1.1).1; omega
            go_wp2_with fail
            go_ret
            exact ⟨hi.bw, Or.inr ⟨hno.out, rfl⟩⟩
          by_cases g2 : 57 < b5
          · have hno : Hid (¬ TOk b0 b1 b2 b3 b4 b5 b6 b7 b8 b9) := fun h => by have := (h.1.2.1.1).2; omega
            go_wp2_with fail
            go_ret
            exact ⟨hi.bw, Or.inr ⟨hno.out, rfl⟩⟩
          have d1 : 48 ≤ b5 := by omega
          have d2 : b5 ≤ 57 := by omega
          go_wp2_with fail
          go_roundw
          case rel => exact ⟨hpl.far (blk_ne hpl hi.bm (by decide)) _, Or.inr (Or.inl ⟨rfl, ⟨d1, d2⟩, _, (by show _ = _; rw [HV.out] <;> first | rfl | omega), by omega, by omega, hi.putM _ HD.out.2.1 HN.out.1 (Ne.symm HN.out.2.2)⟩)⟩
          case measure => simp [intOf]
        · have qb := (hi.bt.cell 6).trans (b := some (Value.int .u8 b6)) rfl
          have qv := (hi.bm.cell 0).trans (b := some (Value.int .i64 v)) rfl
          have qf := hi.bm.frozen 0
          by_cases g1 : b6 < 48
          · have hno : Hid (¬ TOk b0 b1 b2 b3 b4 b5 b6 b7 b8 b9) := fun h => by have := (h.1.2.1.2).1; omega
            go_wp2_with fail
            go_ret
            exact ⟨hi.bw, Or.inr ⟨hno.out, rfl⟩⟩
          by_cases g2 : 57 < b6
          · have hno : Hid (¬ TOk b0 b1 b2 b3 b4 b5 b6 b7 b8 b9) := fun h => by have := (h.1.2.1.2).2; omega
            go_wp2_with fail
            go_ret
            exact ⟨hi.bw, Or.inr ⟨hno.out, rfl⟩⟩
          have d1 : 48 ≤ b6 := by omega
          have d2 : b6 ≤ 57 := by omega
          go_wp2_with fail
          go_roundw
          case rel => exact ⟨hpl.far (blk_ne hpl hi.bm (by decide)) _, Or.inr (Or.inr (⟨rfl, ⟨HQ.out, ⟨d1, d2⟩⟩, _, (by show _ = _; rw [HV.out] <;> first | rfl | omega), by omega, by omega, hi.putM _ HD.out.2.1 HN.out.1 (Ne.symm HN.out.2.2)⟩))⟩
          case measure => simp [intOf]
        · have pt := (hpl.cell 1).trans (b := some (Value.int .i64 7)) rfl
          have qs := (hi.bt.cell 7).trans (b := some (Value.int .u8 b7)) rfl
          by_cases g1 : b7 = 45
          · have HP1 := hid (show Pre2 b0 b1 b2 b3 b4 b5 b6 b7 from ⟨HP.out, ⟨HQ.out, g1⟩⟩)
            have hv2 : v = num2 b5 b6 := HV.out
            subst hv2
            subst g1
            go_wp2_with fail
            go_roundw
            case rel => exact Or.inr (Or.inr (Or.inl ⟨rfl, HP1.out, hi⟩))
            case measure => simp [intOf]
          · have hno : Hid (¬ TOk b0 b1 b2 b3 b4 b5 b6 b7 b8 b9) := fun h => g1 (h.1.2.2)
            go_wp2_with fail
            go_ret
            exact ⟨hi.bw, Or.inr ⟨hno.out, rfl⟩⟩
    · have hL := HL.out.belowB hw.bw HB.out
      have q0 := (hw.bp.cell 2).trans (b := some (Value.pointer (some ⟨d, 0, none⟩))) rfl
      obtain ⟨c0, c1, c2, c3, c4, c5⟩ := hL.fld
      clear hL
      go_wp2_with fail
      clear q0 c0 c1 c2 c3 c4 c5
      go_loopw [26] (fun j wi => Blk wi wr.heap.size 56 #[.int .i64 8, .int .i64 10] ∧ (
              (j = .int .i64 0 ∧ Hid (True) ∧ ∃ v, Hid (v = 0) ∧ 0 ≤ v ∧ v ≤ 0 ∧ RAt B w.heap.size y m d gs w wi #[.int .u8 b0, .int .u8 b1, .int .u8 b2, .int .u8 b3, .int .u8 b4, .int .u8 b5, .int .u8 b6, .int .u8 b7, .int .u8 b8, .int .u8 b9] (num4 b0 b1 b2 b3) (num2 b5 b6) v) ∨
              (j = .int .i64 1 ∧ Hid (Dig b8) ∧ ∃ v, Hid (v = b8 - 48) ∧ 0 ≤ v ∧ v ≤ 9 ∧ RAt B w.heap.size y m d gs w wi #[.int .u8 b0, .int .u8 b1, .int .u8 b2, .int .u8 b3, .int .u8 b4, .int .u8 b5, .int .u8 b6, .int .u8 b7, .int .u8 b8, .int .u8 b9] (num4 b0 b1 b2 b3) (num2 b5 b6) v) ∨
              (j = .int .i64 2 ∧ Hid (Dig b8 ∧ Dig b9) ∧ ∃ v, Hid (v = num2 b8 b9) ∧ 0 ≤ v ∧ v ≤ 99 ∧ RAt B w.heap.size y m d gs w wi #[.int .u8 b0, .int .u8 b1, .int .u8 b2, .int .u8 b3, .int .u8 b4, .int .u8 b5, .int .u8 b6, .int .u8 b7, .int .u8 b8, .int .u8 b9] (num4 b0 b1 b2 b3) (num2 b5 b6) v))) (fun j _ => (2 - intOf j).toNat)
      case atStart => exact ⟨Blk.new _ _ _, Or.inl ⟨rfl, trivial, 0, rfl, by omega, by omega, hw.new _ hBs.out⟩⟩
      case round =>
        obtain ⟨hpl, hrel⟩ := hrel
        rcases hrel with ⟨rfl, HQ, v, HV, v0, v1, hi⟩ | ⟨rfl, HQ, v, HV, v0, v1, hi⟩ | ⟨rfl, HQ, v, HV, v0, v1, hi⟩
        · have qb := (hi.bt.cell 8).trans (b := some (Value.int .u8 b8)) rfl
          have qv := (hi.bd.cell 0).trans (b := some (Value.int .i64 v)) rfl
          have qf := hi.bd.frozen 0
          by_cases g1 : b8 < 48
          · have hno : Hid (¬ TOk b0 b1 b2 b3 b4 b5 b6 b7 b8 b9) := fun h => by have := (h.2.1).1; omega
            go_wp2_with fail
            go_ret
            exact ⟨hi.bw, Or.inr ⟨hno.out, rfl⟩⟩
          by_cases g2 : 57 < b8
          · have hno : Hid (¬ TOk b0 b1 b2 b3 b4 b5 b6 b7 b8 b9) := fun h => by have := (h.2.1).2; omega
            go_wp2_with fail
            go_ret
            exact ⟨hi.bw, Or.inr ⟨hno.out, rfl⟩⟩
          have d1 : 48 ≤ b8 := by omega
          have d2 : b8 ≤ 57 := by omega
          go_wp2_with fail
          go_roundw
          case rel => exact ⟨hpl.far (blk_ne hpl hi.bd (by decide)) _, Or.inr (Or.inl ⟨rfl, ⟨d1, d2⟩, _, (by show _ = _; rw [HV.out] <;> first | rfl | omega), by omega, by omega, hi.putD _ HD.out.2.2 HN.out.2.1 HN.out.2.2⟩)⟩
          case measure => simp [intOf]
        · have qb := (hi.bt.cell 9).trans (b := some (Value.int .u8 b9)) rfl
          have qv := (hi.bd.cell 0).trans (b := some (Value.int .i64 v)) rfl
          have qf := hi.bd.frozen 0
          by_cases g1 : b9 < 48
          · have hno : Hid (¬ TOk b0 b1 b2 b3 b4 b5 b6 b7 b8 b9) := fun h => by have := (h.2.2).1; omega
            go_wp2_with fail
            go_ret
            exact ⟨hi.bw, Or.inr ⟨hno.out, rfl⟩⟩
          by_cases g2 : 57 < b9
          · have hno : Hid (¬ TOk b0 b1 b2 b3 b4 b5 b6 b7 b8 b9) := fun h => by have := (h.2.2).2; omega
            go_wp2_with fail
            go_ret
            exact ⟨hi.bw, Or.inr ⟨hno.out, rfl⟩⟩
          have d1 : 48 ≤ b9 := by omega
          have d2 : b9 ≤ 57 := by omega
          go_wp2_with fail
          go_roundw
          case rel => exact ⟨hpl.far (blk_ne hpl hi.bd (by decide)) _, Or.inr (Or.inr (⟨rfl, ⟨HQ.out, ⟨d1, d2⟩⟩, _, (by show _ = _; rw [HV.out] <;> first | rfl | omega), by omega, by omega, hi.putD _ HD.out.2.2 HN.out.2.1 HN.out.2.2⟩))⟩
          case measure => simp [intOf]
        · have pt := (hpl.cell 1).trans (b := some (Value.int .i64 10)) rfl
          have HP1 := hid (show TOk b0 b1 b2 b3 b4 b5 b6 b7 b8 b9 from ⟨HP.out, HQ.out⟩)
          have hv2 : v = num2 b8 b9 := HV.out
          subst hv2
          go_wp2_with fail
          go_roundw
          case rel => exact Or.inr (Or.inr (Or.inr ⟨rfl, HP1.out, hi⟩))
          case measure => simp [intOf]
    · go_wp2
      go_ret
      exact ⟨hw.bw, Or.inl ⟨HP.out, rfl, hw.by_, hw.bm, hw.bd⟩⟩
end Go.Proofs.YtmpkjooglpomoaaDoor
