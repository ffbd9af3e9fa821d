/- The bytes of a number in a text. -/
import Derived.Test.YtmpkjooglpomoaaDoorCb
import Derived.Test.YtmpkjooglpomoaaDoorBlk
namespace Go.Proofs.YtmpkjooglpomoaaDoor
open Go.RowKit Go.Lib

/-- What a field of a text is made of. -/
structure WithAt (w wr : World) (f t : Int) (cs : Array Value) : Prop where
  bw : Below w.heap.size w wr
  ba : Blk wr w.heap.size 44 cs
  bz : Blk wr (w.heap.size + 1) 44 #[.int .u8 0, .int .u8 0, .int .u8 0, .int .u8 0, .int .u8 0, .int .u8 0, .int .u8 0, .int .u8 0, .int .u8 0, .int .u8 0]
  bf : Blk wr (w.heap.size + 1 + 1) 56 #[.int .i64 f, .int .i64 t]
theorem WithAt.put {w wr : World} {f t : Int} {cs cs' : Array Value} (h : WithAt w wr f t cs) (i : Nat) (v : Value) (he : cs.setIfInBounds i v = cs') : WithAt w (wr.setCell ⟨w.heap.size, i, none⟩ v) f t cs' :=
  ⟨h.bw.setCell (Nat.le_refl _) _, he ▸ h.ba.set_ i v, h.bz.far (show w.heap.size + 1 ≠ w.heap.size by omega) _, h.bf.far (show w.heap.size + 1 + 1 ≠ w.heap.size by omega) _⟩

theorem withAt_start (w : World) (A : Array Value) (f t : Int) :
    WithAt w (((w.alloc (.cells A 44)).alloc (.cells #[.int .u8 0, .int .u8 0, .int .u8 0, .int .u8 0, .int .u8 0, .int .u8 0, .int .u8 0, .int .u8 0, .int .u8 0, .int .u8 0] 44)).alloc (.cells #[.int .i64 f, .int .i64 t] 56)) f t A :=
  ⟨(by repeat (first | exact Below.refl _ _ | assumption | refine Below.alloc ?_ (by first | (simp; done) | (simp; omega) | omega) _ | refine Below.setCell ?_ (by first | (simp; done) | (simp; omega) | omega) _ | refine Below.drew ?_)), ((Blk.new _ _ _).alloc _).alloc _,
    by have := (Blk.new (w.alloc (.cells A 44)) 44 #[.int .u8 0, .int .u8 0, .int .u8 0, .int .u8 0, .int .u8 0, .int .u8 0, .int .u8 0, .int .u8 0, .int .u8 0, .int .u8 0]).alloc (.cells #[.int .i64 f, .int .i64 t] 56); simpa using this,
    by have := Blk.new ((w.alloc (.cells A 44)).alloc (.cells #[.int .u8 0, .int .u8 0, .int .u8 0, .int .u8 0, .int .u8 0, .int .u8 0, .int .u8 0, .int .u8 0, .int .u8 0, .int .u8 0] 44)) 56 #[.int .i64 f, .int .i64 t]; simpa using this⟩

theorem Blk.put_ {w : World} {g : Nat} {t : TypeId} {cs cs' : Array Value} (h : Blk w g t cs) (i : Nat) (u : Value) (he : cs.setIfInBounds i u = cs') : Blk (w.setCell ⟨g, i, none⟩ u) g t cs' := he ▸ h.set_ i u
theorem ret53 {a : Array Value} {W : World} {b : Nat} {cs : Array Value} (ha : a[6]?.getD undef = .pointer (some ⟨b, 0, none⟩)) (hB : Blk W b 44 cs) (hs : cs.size = 10) : (results Tryd.f53 a).run Tryd.prog W = .ok (.agg cs) W := by
  have hi : (Tryd.prog.info? 44).map (·.size) = some cs.size := by rw [hs]; kernel_rfl
  have hl := run_loadVar_row (P := Tryd.prog) W b 44 44 cs (0,0) _ hB Tryd.underlying44 rfl hi
  simp only [results, Tryd.results53]
  simp [ha, asAddr, hl]

set_option maxRecDepth 100000 in
set_option maxHeartbeats 2000000 in
theorem with0 (n : Int) (a0 a1 a2 a3 a4 a5 a6 a7 a8 a9 : Int) (h0 : 0 ≤ n) (h1 : n < 10000) {w : World} (hL : Laid w) :
    Calls Tryd.prog 53 #[.agg #[.int .u8 a0, .int .u8 a1, .int .u8 a2, .int .u8 a3, .int .u8 a4, .int .u8 a5, .int .u8 a6, .int .u8 a7, .int .u8 a8, .int .u8 a9], .int .i64 0, .int .i64 n] w fun e w' => e = .returned (.agg #[.int .u8 (48 + n / 10 / 10 / 10 % 10), .int .u8 (48 + n / 10 / 10 % 10), .int .u8 (48 + n / 10 % 10), .int .u8 (48 + n % 10), .int .u8 45, .int .u8 a5, .int .u8 a6, .int .u8 a7, .int .u8 a8, .int .u8 a9]) ∧ Below w.heap.size w w' := by
  obtain ⟨c0, c1, c2, c3, c4, c5⟩ := hL.fld
  have hz := hL.size
  have hk : ∀ o o' i, ((w.alloc o).alloc o').cell? ⟨1, i, none⟩ = w.cell? ⟨1, i, none⟩ := fun o o' i => (show Below w.heap.size w ((w.alloc o).alloc o') from (by repeat (first | exact Below.refl _ _ | assumption | refine Below.alloc ?_ (by first | (simp; done) | (simp; omega) | omega) _ | refine Below.setCell ?_ (by first | (simp; done) | (simp; omega) | omega) _ | refine Below.drew ?_))).cell (p := ⟨1, i, none⟩) (show 1 < w.heap.size by omega)
  clear hL
  go_enter Tryd.func53, Tryd.ntmps53
  go_wp2
  clear hk c0 c1 c2 c3 c4 c5
  go_loopw [2, 8] (fun x i wr =>
      (x = .int .i64 (n) ∧ i = .int .i64 (3) ∧ WithAt w wr 0 4 #[.int .u8 a0, .int .u8 a1, .int .u8 a2, .int .u8 a3, .int .u8 a4, .int .u8 a5, .int .u8 a6, .int .u8 a7, .int .u8 a8, .int .u8 a9]) ∨
      (x = .int .i64 (n / 10) ∧ i = .int .i64 (2) ∧ WithAt w wr 0 4 #[.int .u8 a0, .int .u8 a1, .int .u8 a2, .int .u8 (48 + n % 10), .int .u8 a4, .int .u8 a5, .int .u8 a6, .int .u8 a7, .int .u8 a8, .int .u8 a9]) ∨
      (x = .int .i64 (n / 10 / 10) ∧ i = .int .i64 (1) ∧ WithAt w wr 0 4 #[.int .u8 a0, .int .u8 a1, .int .u8 (48 + n / 10 % 10), .int .u8 (48 + n % 10), .int .u8 a4, .int .u8 a5, .int .u8 a6, .int .u8 a7, .int .u8 a8, .int .u8 a9]) ∨
      (x = .int .i64 (n / 10 / 10 / 10) ∧ i = .int .i64 (0) ∧ WithAt w wr 0 4 #[.int .u8 a0, .int .u8 (48 + n / 10 / 10 % 10), .int .u8 (48 + n / 10 % 10), .int .u8 (48 + n % 10), .int .u8 a4, .int .u8 a5, .int .u8 a6, .int .u8 a7, .int .u8 a8, .int .u8 a9]) ∨
      (x = .int .i64 (n / 10 / 10 / 10 / 10) ∧ i = .int .i64 (-1) ∧ WithAt w wr 0 4 #[.int .u8 (48 + n / 10 / 10 / 10 % 10), .int .u8 (48 + n / 10 / 10 % 10), .int .u8 (48 + n / 10 % 10), .int .u8 (48 + n % 10), .int .u8 a4, .int .u8 a5, .int .u8 a6, .int .u8 a7, .int .u8 a8, .int .u8 a9]))
    (fun _ i _ => (intOf i + 1).toNat)
  case atStart => exact Or.inl ⟨rfl, rfl, withAt_start w _ 0 4⟩
  case round =>
    rcases hrel with ⟨rfl, rfl, hw⟩ | ⟨rfl, rfl, hw⟩ | ⟨rfl, rfl, hw⟩ | ⟨rfl, rfl, hw⟩ | ⟨rfl, rfl, hw⟩
    · have f0 := (hw.bf.cell 0).trans (b := some (Value.int .i64 0)) rfl
      have g3 := (hw.ba.cell 3).trans (b := some (Value.int .u8 a3)) rfl
      have r3 := hw.ba.frozen 3
      have p0 : 0 ≤ n := by omega
      have p1 : n ≤ 9999 := by omega
      go_wp2
      go_roundw
      case rel => exact Or.inr (Or.inl ⟨rfl, rfl, hw.put 3 _ rfl⟩)
      case measure => simp [intOf]
    · have f0 := (hw.bf.cell 0).trans (b := some (Value.int .i64 0)) rfl
      have g3 := (hw.ba.cell 2).trans (b := some (Value.int .u8 a2)) rfl
      have r3 := hw.ba.frozen 2
      have p0 : 0 ≤ n / 10 := by omega
      have p1 : n / 10 ≤ 9999 := by omega
      go_wp2
      go_roundw
      case rel => exact Or.inr (Or.inr (Or.inl ⟨rfl, rfl, hw.put 2 _ rfl⟩))
      case measure => simp [intOf]
    · have f0 := (hw.bf.cell 0).trans (b := some (Value.int .i64 0)) rfl
      have g3 := (hw.ba.cell 1).trans (b := some (Value.int .u8 a1)) rfl
      have r3 := hw.ba.frozen 1
      have p0 : 0 ≤ n / 10 / 10 := by omega
      have p1 : n / 10 / 10 ≤ 9999 := by omega
      go_wp2
      go_roundw
      case rel => exact Or.inr (Or.inr (Or.inr (Or.inl ⟨rfl, rfl, hw.put 1 _ rfl⟩)))
      case measure => simp [intOf]
    · have f0 := (hw.bf.cell 0).trans (b := some (Value.int .i64 0)) rfl
      have g3 := (hw.ba.cell 0).trans (b := some (Value.int .u8 a0)) rfl
      have r3 := hw.ba.frozen 0
      have p0 : 0 ≤ n / 10 / 10 / 10 := by omega
      have p1 : n / 10 / 10 / 10 ≤ 9999 := by omega
      go_wp2
      go_roundw
      case rel => exact Or.inr (Or.inr (Or.inr (Or.inr (⟨rfl, rfl, hw.put 0 _ rfl⟩))))
      case measure => simp [intOf]
    · have f0 := (hw.bf.cell 0).trans (b := some (Value.int .i64 0)) rfl
      have f1 := (hw.bf.cell 1).trans (b := some (Value.int .i64 4)) rfl
      have g0 := (hw.ba.cell 0).trans (b := some (Value.int .u8 (48 + n / 10 / 10 / 10 % 10))) rfl
      have z0 := (hw.bz.cell 0).trans (b := some (Value.int .u8 0)) rfl
      have q0 := hw.bz.frozen 0
      have g1 := (hw.ba.cell 1).trans (b := some (Value.int .u8 (48 + n / 10 / 10 % 10))) rfl
      have z1 := (hw.bz.cell 1).trans (b := some (Value.int .u8 0)) rfl
      have q1 := hw.bz.frozen 1
      have g2 := (hw.ba.cell 2).trans (b := some (Value.int .u8 (48 + n / 10 % 10))) rfl
      have z2 := (hw.bz.cell 2).trans (b := some (Value.int .u8 0)) rfl
      have q2 := hw.bz.frozen 2
      have g3 := (hw.ba.cell 3).trans (b := some (Value.int .u8 (48 + n % 10))) rfl
      have z3 := (hw.bz.cell 3).trans (b := some (Value.int .u8 0)) rfl
      have q3 := hw.bz.frozen 3
      have g4 := (hw.ba.cell 4).trans (b := some (Value.int .u8 (a4))) rfl
      have z4 := (hw.bz.cell 4).trans (b := some (Value.int .u8 0)) rfl
      have q4 := hw.bz.frozen 4
      have g5 := (hw.ba.cell 5).trans (b := some (Value.int .u8 (a5))) rfl
      have z5 := (hw.bz.cell 5).trans (b := some (Value.int .u8 0)) rfl
      have q5 := hw.bz.frozen 5
      have g6 := (hw.ba.cell 6).trans (b := some (Value.int .u8 (a6))) rfl
      have z6 := (hw.bz.cell 6).trans (b := some (Value.int .u8 0)) rfl
      have q6 := hw.bz.frozen 6
      have g7 := (hw.ba.cell 7).trans (b := some (Value.int .u8 (a7))) rfl
      have z7 := (hw.bz.cell 7).trans (b := some (Value.int .u8 0)) rfl
      have q7 := hw.bz.frozen 7
      have g8 := (hw.ba.cell 8).trans (b := some (Value.int .u8 (a8))) rfl
      have z8 := (hw.bz.cell 8).trans (b := some (Value.int .u8 0)) rfl
      have q8 := hw.bz.frozen 8
      have g9 := (hw.ba.cell 9).trans (b := some (Value.int .u8 (a9))) rfl
      have z9 := (hw.bz.cell 9).trans (b := some (Value.int .u8 0)) rfl
      have q9 := hw.bz.frozen 9
      have r4 := hw.ba.frozen 4
      have hb := hw.bw
      go_wp2
      refine bodyPost_ret (v := .agg #[.int .u8 (48 + n / 10 / 10 / 10 % 10), .int .u8 (48 + n / 10 / 10 % 10), .int .u8 (48 + n / 10 % 10), .int .u8 (48 + n % 10), .int .u8 45, .int .u8 a5, .int .u8 a6, .int .u8 a7, .int .u8 a8, .int .u8 a9]) (ret53 (b := w.heap.size + 1) rfl ?_ rfl) rfl ⟨rfl, ?_⟩
      ·
        refine Blk.put_ (cs := #[.int .u8 (48 + n / 10 / 10 / 10 % 10), .int .u8 (48 + n / 10 / 10 % 10), .int .u8 (48 + n / 10 % 10), .int .u8 (48 + n % 10), .int .u8 45, .int .u8 a5, .int .u8 a6, .int .u8 a7, .int .u8 a8, .int .u8 0]) ?_ 9 _ rfl
        refine Blk.put_ (cs := #[.int .u8 (48 + n / 10 / 10 / 10 % 10), .int .u8 (48 + n / 10 / 10 % 10), .int .u8 (48 + n / 10 % 10), .int .u8 (48 + n % 10), .int .u8 45, .int .u8 a5, .int .u8 a6, .int .u8 a7, .int .u8 0, .int .u8 0]) ?_ 8 _ rfl
        refine Blk.put_ (cs := #[.int .u8 (48 + n / 10 / 10 / 10 % 10), .int .u8 (48 + n / 10 / 10 % 10), .int .u8 (48 + n / 10 % 10), .int .u8 (48 + n % 10), .int .u8 45, .int .u8 a5, .int .u8 a6, .int .u8 0, .int .u8 0, .int .u8 0]) ?_ 7 _ rfl
        refine Blk.put_ (cs := #[.int .u8 (48 + n / 10 / 10 / 10 % 10), .int .u8 (48 + n / 10 / 10 % 10), .int .u8 (48 + n / 10 % 10), .int .u8 (48 + n % 10), .int .u8 45, .int .u8 a5, .int .u8 0, .int .u8 0, .int .u8 0, .int .u8 0]) ?_ 6 _ rfl
        refine Blk.put_ (cs := #[.int .u8 (48 + n / 10 / 10 / 10 % 10), .int .u8 (48 + n / 10 / 10 % 10), .int .u8 (48 + n / 10 % 10), .int .u8 (48 + n % 10), .int .u8 45, .int .u8 0, .int .u8 0, .int .u8 0, .int .u8 0, .int .u8 0]) ?_ 5 _ rfl
        refine Blk.put_ (cs := #[.int .u8 (48 + n / 10 / 10 / 10 % 10), .int .u8 (48 + n / 10 / 10 % 10), .int .u8 (48 + n / 10 % 10), .int .u8 (48 + n % 10), .int .u8 0, .int .u8 0, .int .u8 0, .int .u8 0, .int .u8 0, .int .u8 0]) ?_ 4 _ rfl
        refine Blk.put_ (cs := #[.int .u8 (48 + n / 10 / 10 / 10 % 10), .int .u8 (48 + n / 10 / 10 % 10), .int .u8 (48 + n / 10 % 10), .int .u8 0, .int .u8 0, .int .u8 0, .int .u8 0, .int .u8 0, .int .u8 0, .int .u8 0]) ?_ 3 _ rfl
        refine Blk.put_ (cs := #[.int .u8 (48 + n / 10 / 10 / 10 % 10), .int .u8 (48 + n / 10 / 10 % 10), .int .u8 0, .int .u8 0, .int .u8 0, .int .u8 0, .int .u8 0, .int .u8 0, .int .u8 0, .int .u8 0]) ?_ 2 _ rfl
        refine Blk.put_ (cs := #[.int .u8 (48 + n / 10 / 10 / 10 % 10), .int .u8 0, .int .u8 0, .int .u8 0, .int .u8 0, .int .u8 0, .int .u8 0, .int .u8 0, .int .u8 0, .int .u8 0]) ?_ 1 _ rfl
        refine Blk.put_ (cs := #[.int .u8 0, .int .u8 0, .int .u8 0, .int .u8 0, .int .u8 0, .int .u8 0, .int .u8 0, .int .u8 0, .int .u8 0, .int .u8 0]) ?_ 0 _ rfl
        exact hw.bz.far (show w.heap.size + 1 ≠ w.heap.size by omega) _
      · exact (((((((((((hb.setCell (Nat.le_refl _) _).setCell (Nat.le_succ _) _).setCell (Nat.le_succ _) _).setCell (Nat.le_succ _) _).setCell (Nat.le_succ _) _).setCell (Nat.le_succ _) _).setCell (Nat.le_succ _) _).setCell (Nat.le_succ _) _).setCell (Nat.le_succ _) _).setCell (Nat.le_succ _) _).setCell (Nat.le_succ _) _)

set_option maxRecDepth 100000 in
set_option maxHeartbeats 2000000 in
theorem with1 (n : Int) (a0 a1 a2 a3 a4 a5 a6 a7 a8 a9 : Int) (h0 : 0 ≤ n) (h1 : n < 100) {w : World} (hL : Laid w) :
    Calls Tryd.prog 53 #[.agg #[.int .u8 a0, .int .u8 a1, .int .u8 a2, .int .u8 a3, .int .u8 a4, .int .u8 a5, .int .u8 a6, .int .u8 a7, .int .u8 a8, .int .u8 a9], .int .i64 1, .int .i64 n] w fun e w' => e = .returned (.agg #[.int .u8 a0, .int .u8 a1, .int .u8 a2, .int .u8 a3, .int .u8 a4, .int .u8 (48 + n / 10 % 10), .int .u8 (48 + n % 10), .int .u8 45, .int .u8 a8, .int .u8 a9]) ∧ Below w.heap.size w w' := by
  obtain ⟨c0, c1, c2, c3, c4, c5⟩ := hL.fld
  have hz := hL.size
  have hk : ∀ o o' i, ((w.alloc o).alloc o').cell? ⟨1, i, none⟩ = w.cell? ⟨1, i, none⟩ := fun o o' i => (show Below w.heap.size w ((w.alloc o).alloc o') from (by repeat (first | exact Below.refl _ _ | assumption | refine Below.alloc ?_ (by first | (simp; done) | (simp; omega) | omega) _ | refine Below.setCell ?_ (by first | (simp; done) | (simp; omega) | omega) _ | refine Below.drew ?_))).cell (p := ⟨1, i, none⟩) (show 1 < w.heap.size by omega)
  clear hL
  go_enter Tryd.func53, Tryd.ntmps53
  go_wp2
  clear hk c0 c1 c2 c3 c4 c5
  go_loopw [2, 8] (fun x i wr =>
      (x = .int .i64 (n) ∧ i = .int .i64 (6) ∧ WithAt w wr 5 7 #[.int .u8 a0, .int .u8 a1, .int .u8 a2, .int .u8 a3, .int .u8 a4, .int .u8 a5, .int .u8 a6, .int .u8 a7, .int .u8 a8, .int .u8 a9]) ∨
      (x = .int .i64 (n / 10) ∧ i = .int .i64 (5) ∧ WithAt w wr 5 7 #[.int .u8 a0, .int .u8 a1, .int .u8 a2, .int .u8 a3, .int .u8 a4, .int .u8 a5, .int .u8 (48 + n % 10), .int .u8 a7, .int .u8 a8, .int .u8 a9]) ∨
      (x = .int .i64 (n / 10 / 10) ∧ i = .int .i64 (4) ∧ WithAt w wr 5 7 #[.int .u8 a0, .int .u8 a1, .int .u8 a2, .int .u8 a3, .int .u8 a4, .int .u8 (48 + n / 10 % 10), .int .u8 (48 + n % 10), .int .u8 a7, .int .u8 a8, .int .u8 a9]))
    (fun _ i _ => (intOf i + 1).toNat)
  case atStart => exact Or.inl ⟨rfl, rfl, withAt_start w _ 5 7⟩
  case round =>
    rcases hrel with ⟨rfl, rfl, hw⟩ | ⟨rfl, rfl, hw⟩ | ⟨rfl, rfl, hw⟩
    · have f0 := (hw.bf.cell 0).trans (b := some (Value.int .i64 5)) rfl
      have g3 := (hw.ba.cell 6).trans (b := some (Value.int .u8 a6)) rfl
      have r3 := hw.ba.frozen 6
      have p0 : 0 ≤ n := by omega
      have p1 : n ≤ 9999 := by omega
      go_wp2
      go_roundw
      case rel => exact Or.inr (Or.inl ⟨rfl, rfl, hw.put 6 _ rfl⟩)
      case measure => simp [intOf]
    · have f0 := (hw.bf.cell 0).trans (b := some (Value.int .i64 5)) rfl
      have g3 := (hw.ba.cell 5).trans (b := some (Value.int .u8 a5)) rfl
      have r3 := hw.ba.frozen 5
      have p0 : 0 ≤ n / 10 := by omega
      have p1 : n / 10 ≤ 9999 := by omega
      go_wp2
      go_roundw
      case rel => exact Or.inr (Or.inr (⟨rfl, rfl, hw.put 5 _ rfl⟩))
      case measure => simp [intOf]
    · have f0 := (hw.bf.cell 0).trans (b := some (Value.int .i64 5)) rfl
      have f1 := (hw.bf.cell 1).trans (b := some (Value.int .i64 7)) rfl
      have g0 := (hw.ba.cell 0).trans (b := some (Value.int .u8 (a0))) rfl
      have z0 := (hw.bz.cell 0).trans (b := some (Value.int .u8 0)) rfl
      have q0 := hw.bz.frozen 0
      have g1 := (hw.ba.cell 1).trans (b := some (Value.int .u8 (a1))) rfl
      have z1 := (hw.bz.cell 1).trans (b := some (Value.int .u8 0)) rfl
      have q1 := hw.bz.frozen 1
      have g2 := (hw.ba.cell 2).trans (b := some (Value.int .u8 (a2))) rfl
      have z2 := (hw.bz.cell 2).trans (b := some (Value.int .u8 0)) rfl
      have q2 := hw.bz.frozen 2
      have g3 := (hw.ba.cell 3).trans (b := some (Value.int .u8 (a3))) rfl
      have z3 := (hw.bz.cell 3).trans (b := some (Value.int .u8 0)) rfl
      have q3 := hw.bz.frozen 3
      have g4 := (hw.ba.cell 4).trans (b := some (Value.int .u8 (a4))) rfl
      have z4 := (hw.bz.cell 4).trans (b := some (Value.int .u8 0)) rfl
      have q4 := hw.bz.frozen 4
      have g5 := (hw.ba.cell 5).trans (b := some (Value.int .u8 (48 + n / 10 % 10))) rfl
      have z5 := (hw.bz.cell 5).trans (b := some (Value.int .u8 0)) rfl
      have q5 := hw.bz.frozen 5
      have g6 := (hw.ba.cell 6).trans (b := some (Value.int .u8 (48 + n % 10))) rfl
      have z6 := (hw.bz.cell 6).trans (b := some (Value.int .u8 0)) rfl
      have q6 := hw.bz.frozen 6
      have g7 := (hw.ba.cell 7).trans (b := some (Value.int .u8 (a7))) rfl
      have z7 := (hw.bz.cell 7).trans (b := some (Value.int .u8 0)) rfl
      have q7 := hw.bz.frozen 7
      have g8 := (hw.ba.cell 8).trans (b := some (Value.int .u8 (a8))) rfl
      have z8 := (hw.bz.cell 8).trans (b := some (Value.int .u8 0)) rfl
      have q8 := hw.bz.frozen 8
      have g9 := (hw.ba.cell 9).trans (b := some (Value.int .u8 (a9))) rfl
      have z9 := (hw.bz.cell 9).trans (b := some (Value.int .u8 0)) rfl
      have q9 := hw.bz.frozen 9
      have r4 := hw.ba.frozen 7
      have hb := hw.bw
      go_wp2
      refine bodyPost_ret (v := .agg #[.int .u8 a0, .int .u8 a1, .int .u8 a2, .int .u8 a3, .int .u8 a4, .int .u8 (48 + n / 10 % 10), .int .u8 (48 + n % 10), .int .u8 45, .int .u8 a8, .int .u8 a9]) (ret53 (b := w.heap.size + 1) rfl ?_ rfl) rfl ⟨rfl, ?_⟩
      ·
        refine Blk.put_ (cs := #[.int .u8 a0, .int .u8 a1, .int .u8 a2, .int .u8 a3, .int .u8 a4, .int .u8 (48 + n / 10 % 10), .int .u8 (48 + n % 10), .int .u8 45, .int .u8 a8, .int .u8 0]) ?_ 9 _ rfl
        refine Blk.put_ (cs := #[.int .u8 a0, .int .u8 a1, .int .u8 a2, .int .u8 a3, .int .u8 a4, .int .u8 (48 + n / 10 % 10), .int .u8 (48 + n % 10), .int .u8 45, .int .u8 0, .int .u8 0]) ?_ 8 _ rfl
        refine Blk.put_ (cs := #[.int .u8 a0, .int .u8 a1, .int .u8 a2, .int .u8 a3, .int .u8 a4, .int .u8 (48 + n / 10 % 10), .int .u8 (48 + n % 10), .int .u8 0, .int .u8 0, .int .u8 0]) ?_ 7 _ rfl
        refine Blk.put_ (cs := #[.int .u8 a0, .int .u8 a1, .int .u8 a2, .int .u8 a3, .int .u8 a4, .int .u8 (48 + n / 10 % 10), .int .u8 0, .int .u8 0, .int .u8 0, .int .u8 0]) ?_ 6 _ rfl
        refine Blk.put_ (cs := #[.int .u8 a0, .int .u8 a1, .int .u8 a2, .int .u8 a3, .int .u8 a4, .int .u8 0, .int .u8 0, .int .u8 0, .int .u8 0, .int .u8 0]) ?_ 5 _ rfl
        refine Blk.put_ (cs := #[.int .u8 a0, .int .u8 a1, .int .u8 a2, .int .u8 a3, .int .u8 0, .int .u8 0, .int .u8 0, .int .u8 0, .int .u8 0, .int .u8 0]) ?_ 4 _ rfl
        refine Blk.put_ (cs := #[.int .u8 a0, .int .u8 a1, .int .u8 a2, .int .u8 0, .int .u8 0, .int .u8 0, .int .u8 0, .int .u8 0, .int .u8 0, .int .u8 0]) ?_ 3 _ rfl
        refine Blk.put_ (cs := #[.int .u8 a0, .int .u8 a1, .int .u8 0, .int .u8 0, .int .u8 0, .int .u8 0, .int .u8 0, .int .u8 0, .int .u8 0, .int .u8 0]) ?_ 2 _ rfl
        refine Blk.put_ (cs := #[.int .u8 a0, .int .u8 0, .int .u8 0, .int .u8 0, .int .u8 0, .int .u8 0, .int .u8 0, .int .u8 0, .int .u8 0, .int .u8 0]) ?_ 1 _ rfl
        refine Blk.put_ (cs := #[.int .u8 0, .int .u8 0, .int .u8 0, .int .u8 0, .int .u8 0, .int .u8 0, .int .u8 0, .int .u8 0, .int .u8 0, .int .u8 0]) ?_ 0 _ rfl
        exact hw.bz.far (show w.heap.size + 1 ≠ w.heap.size by omega) _
      · exact (((((((((((hb.setCell (Nat.le_refl _) _).setCell (Nat.le_succ _) _).setCell (Nat.le_succ _) _).setCell (Nat.le_succ _) _).setCell (Nat.le_succ _) _).setCell (Nat.le_succ _) _).setCell (Nat.le_succ _) _).setCell (Nat.le_succ _) _).setCell (Nat.le_succ _) _).setCell (Nat.le_succ _) _).setCell (Nat.le_succ _) _)

set_option maxRecDepth 100000 in
set_option maxHeartbeats 2000000 in
theorem with2 (n : Int) (a0 a1 a2 a3 a4 a5 a6 a7 a8 a9 : Int) (h0 : 0 ≤ n) (h1 : n < 100) {w : World} (hL : Laid w) :
    Calls Tryd.prog 53 #[.agg #[.int .u8 a0, .int .u8 a1, .int .u8 a2, .int .u8 a3, .int .u8 a4, .int .u8 a5, .int .u8 a6, .int .u8 a7, .int .u8 a8, .int .u8 a9], .int .i64 2, .int .i64 n] w fun e w' => e = .returned (.agg #[.int .u8 a0, .int .u8 a1, .int .u8 a2, .int .u8 a3, .int .u8 a4, .int .u8 a5, .int .u8 a6, .int .u8 a7, .int .u8 (48 + n / 10 % 10), .int .u8 (48 + n % 10)]) ∧ Below w.heap.size w w' := by
  obtain ⟨c0, c1, c2, c3, c4, c5⟩ := hL.fld
  have hz := hL.size
  have hk : ∀ o o' i, ((w.alloc o).alloc o').cell? ⟨1, i, none⟩ = w.cell? ⟨1, i, none⟩ := fun o o' i => (show Below w.heap.size w ((w.alloc o).alloc o') from (by repeat (first | exact Below.refl _ _ | assumption | refine Below.alloc ?_ (by first | (simp; done) | (simp; omega) | omega) _ | refine Below.setCell ?_ (by first | (simp; done) | (simp; omega) | omega) _ | refine Below.drew ?_))).cell (p := ⟨1, i, none⟩) (show 1 < w.heap.size by omega)
  clear hL
  go_enter Tryd.func53, Tryd.ntmps53
  go_wp2
  clear hk c0 c1 c2 c3 c4 c5
  go_loopw [2, 8] (fun x i wr =>
      (x = .int .i64 (n) ∧ i = .int .i64 (9) ∧ WithAt w wr 8 10 #[.int .u8 a0, .int .u8 a1, .int .u8 a2, .int .u8 a3, .int .u8 a4, .int .u8 a5, .int .u8 a6, .int .u8 a7, .int .u8 a8, .int .u8 a9]) ∨
      (x = .int .i64 (n / 10) ∧ i = .int .i64 (8) ∧ WithAt w wr 8 10 #[.int .u8 a0, .int .u8 a1, .int .u8 a2, .int .u8 a3, .int .u8 a4, .int .u8 a5, .int .u8 a6, .int .u8 a7, .int .u8 a8, .int .u8 (48 + n % 10)]) ∨
      (x = .int .i64 (n / 10 / 10) ∧ i = .int .i64 (7) ∧ WithAt w wr 8 10 #[.int .u8 a0, .int .u8 a1, .int .u8 a2, .int .u8 a3, .int .u8 a4, .int .u8 a5, .int .u8 a6, .int .u8 a7, .int .u8 (48 + n / 10 % 10), .int .u8 (48 + n % 10)]))
    (fun _ i _ => (intOf i + 1).toNat)
  case atStart => exact Or.inl ⟨rfl, rfl, withAt_start w _ 8 10⟩
  case round =>
    rcases hrel with ⟨rfl, rfl, hw⟩ | ⟨rfl, rfl, hw⟩ | ⟨rfl, rfl, hw⟩
    · have f0 := (hw.bf.cell 0).trans (b := some (Value.int .i64 8)) rfl
      have g3 := (hw.ba.cell 9).trans (b := some (Value.int .u8 a9)) rfl
      have r3 := hw.ba.frozen 9
      have p0 : 0 ≤ n := by omega
      have p1 : n ≤ 9999 := by omega
      go_wp2
      go_roundw
      case rel => exact Or.inr (Or.inl ⟨rfl, rfl, hw.put 9 _ rfl⟩)
      case measure => simp [intOf]
    · have f0 := (hw.bf.cell 0).trans (b := some (Value.int .i64 8)) rfl
      have g3 := (hw.ba.cell 8).trans (b := some (Value.int .u8 a8)) rfl
      have r3 := hw.ba.frozen 8
      have p0 : 0 ≤ n / 10 := by omega
      have p1 : n / 10 ≤ 9999 := by omega
      go_wp2
      go_roundw
      case rel => exact Or.inr (Or.inr (⟨rfl, rfl, hw.put 8 _ rfl⟩))
      case measure => simp [intOf]
    · have f0 := (hw.bf.cell 0).trans (b := some (Value.int .i64 8)) rfl
      have f1 := (hw.bf.cell 1).trans (b := some (Value.int .i64 10)) rfl
      have g0 := (hw.ba.cell 0).trans (b := some (Value.int .u8 (a0))) rfl
      have z0 := (hw.bz.cell 0).trans (b := some (Value.int .u8 0)) rfl
      have q0 := hw.bz.frozen 0
      have g1 := (hw.ba.cell 1).trans (b := some (Value.int .u8 (a1))) rfl
      have z1 := (hw.bz.cell 1).trans (b := some (Value.int .u8 0)) rfl
      have q1 := hw.bz.frozen 1
      have g2 := (hw.ba.cell 2).trans (b := some (Value.int .u8 (a2))) rfl
      have z2 := (hw.bz.cell 2).trans (b := some (Value.int .u8 0)) rfl
      have q2 := hw.bz.frozen 2
      have g3 := (hw.ba.cell 3).trans (b := some (Value.int .u8 (a3))) rfl
      have z3 := (hw.bz.cell 3).trans (b := some (Value.int .u8 0)) rfl
      have q3 := hw.bz.frozen 3
      have g4 := (hw.ba.cell 4).trans (b := some (Value.int .u8 (a4))) rfl
      have z4 := (hw.bz.cell 4).trans (b := some (Value.int .u8 0)) rfl
      have q4 := hw.bz.frozen 4
      have g5 := (hw.ba.cell 5).trans (b := some (Value.int .u8 (a5))) rfl
      have z5 := (hw.bz.cell 5).trans (b := some (Value.int .u8 0)) rfl
      have q5 := hw.bz.frozen 5
      have g6 := (hw.ba.cell 6).trans (b := some (Value.int .u8 (a6))) rfl
      have z6 := (hw.bz.cell 6).trans (b := some (Value.int .u8 0)) rfl
      have q6 := hw.bz.frozen 6
      have g7 := (hw.ba.cell 7).trans (b := some (Value.int .u8 (a7))) rfl
      have z7 := (hw.bz.cell 7).trans (b := some (Value.int .u8 0)) rfl
      have q7 := hw.bz.frozen 7
      have g8 := (hw.ba.cell 8).trans (b := some (Value.int .u8 (48 + n / 10 % 10))) rfl
      have z8 := (hw.bz.cell 8).trans (b := some (Value.int .u8 0)) rfl
      have q8 := hw.bz.frozen 8
      have g9 := (hw.ba.cell 9).trans (b := some (Value.int .u8 (48 + n % 10))) rfl
      have z9 := (hw.bz.cell 9).trans (b := some (Value.int .u8 0)) rfl
      have q9 := hw.bz.frozen 9
      have hb := hw.bw
      go_wp2
      refine bodyPost_ret (v := .agg #[.int .u8 a0, .int .u8 a1, .int .u8 a2, .int .u8 a3, .int .u8 a4, .int .u8 a5, .int .u8 a6, .int .u8 a7, .int .u8 (48 + n / 10 % 10), .int .u8 (48 + n % 10)]) (ret53 (b := w.heap.size + 1) rfl ?_ rfl) rfl ⟨rfl, ?_⟩
      ·
        refine Blk.put_ (cs := #[.int .u8 a0, .int .u8 a1, .int .u8 a2, .int .u8 a3, .int .u8 a4, .int .u8 a5, .int .u8 a6, .int .u8 a7, .int .u8 (48 + n / 10 % 10), .int .u8 0]) ?_ 9 _ rfl
        refine Blk.put_ (cs := #[.int .u8 a0, .int .u8 a1, .int .u8 a2, .int .u8 a3, .int .u8 a4, .int .u8 a5, .int .u8 a6, .int .u8 a7, .int .u8 0, .int .u8 0]) ?_ 8 _ rfl
        refine Blk.put_ (cs := #[.int .u8 a0, .int .u8 a1, .int .u8 a2, .int .u8 a3, .int .u8 a4, .int .u8 a5, .int .u8 a6, .int .u8 0, .int .u8 0, .int .u8 0]) ?_ 7 _ rfl
        refine Blk.put_ (cs := #[.int .u8 a0, .int .u8 a1, .int .u8 a2, .int .u8 a3, .int .u8 a4, .int .u8 a5, .int .u8 0, .int .u8 0, .int .u8 0, .int .u8 0]) ?_ 6 _ rfl
        refine Blk.put_ (cs := #[.int .u8 a0, .int .u8 a1, .int .u8 a2, .int .u8 a3, .int .u8 a4, .int .u8 0, .int .u8 0, .int .u8 0, .int .u8 0, .int .u8 0]) ?_ 5 _ rfl
        refine Blk.put_ (cs := #[.int .u8 a0, .int .u8 a1, .int .u8 a2, .int .u8 a3, .int .u8 0, .int .u8 0, .int .u8 0, .int .u8 0, .int .u8 0, .int .u8 0]) ?_ 4 _ rfl
        refine Blk.put_ (cs := #[.int .u8 a0, .int .u8 a1, .int .u8 a2, .int .u8 0, .int .u8 0, .int .u8 0, .int .u8 0, .int .u8 0, .int .u8 0, .int .u8 0]) ?_ 3 _ rfl
        refine Blk.put_ (cs := #[.int .u8 a0, .int .u8 a1, .int .u8 0, .int .u8 0, .int .u8 0, .int .u8 0, .int .u8 0, .int .u8 0, .int .u8 0, .int .u8 0]) ?_ 2 _ rfl
        refine Blk.put_ (cs := #[.int .u8 a0, .int .u8 0, .int .u8 0, .int .u8 0, .int .u8 0, .int .u8 0, .int .u8 0, .int .u8 0, .int .u8 0, .int .u8 0]) ?_ 1 _ rfl
        refine Blk.put_ (cs := #[.int .u8 0, .int .u8 0, .int .u8 0, .int .u8 0, .int .u8 0, .int .u8 0, .int .u8 0, .int .u8 0, .int .u8 0, .int .u8 0]) ?_ 0 _ rfl
        exact hw.bz
      · exact ((((((((((hb.setCell (Nat.le_succ _) _).setCell (Nat.le_succ _) _).setCell (Nat.le_succ _) _).setCell (Nat.le_succ _) _).setCell (Nat.le_succ _) _).setCell (Nat.le_succ _) _).setCell (Nat.le_succ _) _).setCell (Nat.le_succ _) _).setCell (Nat.le_succ _) _).setCell (Nat.le_succ _) _)
end Go.Proofs.YtmpkjooglpomoaaDoor
