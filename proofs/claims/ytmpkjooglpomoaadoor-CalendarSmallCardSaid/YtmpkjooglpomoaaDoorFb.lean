/- Texts, read. -/
import Derived.Test.YtmpkjooglpomoaaDoorFa
import Derived.Test.YtmpkjooglpomoaaDoorCl
import Derived.Laws.IdiomStrings
namespace Go.Proofs.YtmpkjooglpomoaaDoor
open Go.RowKit Go.Lib

set_option maxRecDepth 100000 in
set_option maxHeartbeats 2000000 in
theorem parse_len {s : ByteArray} {w : World} (hs : s.size ≠ 10) (_hm : s.size ≤ 9223372036854775807) :
    Calls Tryd.prog 24 #[.string s] w fun e w' => e = .returned (.tuple #[.int .i64 0, .int .i64 2]) ∧ Below w.heap.size w w' := by
  go_enter Tryd.func24, Tryd.ntmps24
  go_wp2_with fail
  go_ret2
  exact ⟨rfl, (by repeat (first | exact Below.refl _ _ | assumption | refine Below.alloc ?_ (by first | (simp; done) | (simp; omega) | omega) _ | refine Below.setCell ?_ (by first | (simp; done) | (simp; omega) | omega) _ | refine Below.drew ?_))⟩

/-- The number of the byte at i. -/
def bt (s : ByteArray) (i : Nat) : Int := ((s.data.toList.getD i 0).toNat : Int)
theorem bt_bd (s : ByteArray) (i : Nat) : 0 ≤ bt s i ∧ bt s i ≤ 255 := by
  unfold bt; have := (s.data.toList.getD i 0).toNat_lt; omega
/-- Whether a string has the form of a date's text. -/
def TextOk (s : ByteArray) : Prop := s.size = 10 ∧ TOk (bt s 0) (bt s 1) (bt s 2) (bt s 3) (bt s 4) (bt s 5) (bt s 6) (bt s 7) (bt s 8) (bt s 9)
def tY (s : ByteArray) : Int := num4 (bt s 0) (bt s 1) (bt s 2) (bt s 3)
def tM (s : ByteArray) : Int := num2 (bt s 5) (bt s 6)
def tD (s : ByteArray) : Int := num2 (bt s 8) (bt s 9)
open Classical in
noncomputable def parseV (s : ByteArray) : Int := if TextOk s then dayV (tY s) (tM s) (tD s) else 0
open Classical in
noncomputable def parseE (s : ByteArray) : Int := if TextOk s then dayE (tY s) (tM s) (tD s) else 2
theorem parse_in {s : ByteArray} (h : TextOk s) : parseV s = dayV (tY s) (tM s) (tD s) ∧ parseE s = dayE (tY s) (tM s) (tD s) := by unfold parseV parseE; rw [if_pos h, if_pos h]; exact ⟨rfl, rfl⟩
theorem parse_out {s : ByteArray} (h : ¬ TextOk s) : parseV s = 0 ∧ parseE s = 2 := by unfold parseV parseE; rw [if_neg h, if_neg h]; exact ⟨rfl, rfl⟩
theorem row_bt (s : ByteArray) (cap i : Nat) (hi : i < s.size) : (bytesRow s cap)[i]? = some (.int .u8 (bt s i)) := by
  have h : i < s.data.toList.length := by simpa using hi
  have h2 : i < s.data.size := hi
  unfold bytesRow bt
  rw [Array.getElem?_append_left (by simpa using h2)]
  simp [List.getD]
  exact ⟨s.data[i], by simp, by rw [Array.getElem?_eq_getElem h2]; rfl⟩

set_option maxRecDepth 100000 in
set_option maxHeartbeats 20000000 in
theorem parse_yes {s : ByteArray} {w : World} (hL : Laid w) (hok : TextOk s) :
    Calls Tryd.prog 24 #[.string s] w fun e w' => e = .returned (.tuple #[.int .i64 (dayV (tY s) (tM s) (tD s)), .int .i64 (dayE (tY s) (tM s) (tD s))]) ∧ Below w.heap.size w w' := by
  have hs : s.size = 10 := hok.1
  have HOK := hid hok.2
  have hd99 : tD s ≤ 9223372036854775807 := by
    have h1 := bt_bd s 8; have h2 := bt_bd s 9
    unfold tD num2; omega
  have HDay := hid (fun w1 (h1 : Laid w1) => day_any (tY s) (tM s) (tD s) h1 hd99)
  have ey : Hid (num4 (bt s 0) (bt s 1) (bt s 2) (bt s 3) = tY s) := rfl
  have em : Hid (num2 (bt s 5) (bt s 6) = tM s) := rfl
  have ed : Hid (num2 (bt s 8) (bt s 9) = tD s) := rfl
  generalize dayV (tY s) (tM s) (tD s) = V at *
  generalize dayE (tY s) (tM s) (tD s) = E at *
  generalize tY s = Y at *
  generalize tM s = M at *
  generalize tD s = D at *
  obtain ⟨W3, hW3⟩ : ∃ W3, ((w.alloc (.cells #[.int .i64 0] 3)).alloc (.cells #[.int .i64 0] 3)).alloc (.cells #[.int .i64 0] 3) = W3 := ⟨_, rfl⟩
  have y3 : Blk W3 w.heap.size 3 #[.int .i64 0] := by rw [← hW3]; exact ((Blk.new _ _ _).alloc _).alloc _
  have m3 : Blk W3 (w.heap.size + 1) 3 #[.int .i64 0] := by
    rw [← hW3]; have := (Blk.new (w.alloc (.cells #[.int .i64 0] 3)) 3 #[.int .i64 0]).alloc (.cells #[.int .i64 0] 3); simpa using this
  have d3 : Blk W3 (w.heap.size + 1 + 1) 3 #[.int .i64 0] := by
    rw [← hW3]; have := Blk.new ((w.alloc (.cells #[.int .i64 0] 3)).alloc (.cells #[.int .i64 0] 3)) 3 #[.int .i64 0]; simpa using this
  have b3 : Below w.heap.size w W3 := by rw [← hW3]; exact (by repeat (first | exact Below.refl _ _ | assumption | refine Below.alloc ?_ (by first | (simp; done) | (simp; omega) | omega) _ | refine Below.setCell ?_ (by first | (simp; done) | (simp; omega) | omega) _ | refine Below.drew ?_))
  have hcv := run_bytes_of_string W3 9 33 5 s Tryd.underlying9 Tryd.underlying33 Tryd.underlying5
  generalize hcp : grownCap W3 s.size 0 5 = cap at hcv
  generalize hfr : ((bytesRow s cap).size, (bytesRow s cap).size + 1) = fr at hcv
  obtain ⟨W4, hW4⟩ : ∃ W4, W3.drew.alloc (.cells (bytesRow s cap) 5 fr) = W4 := ⟨_, rfl⟩
  have b34 : Below W3.heap.size W3 W4 := by rw [← hW4]; exact (Below.refl _ _).drew.alloc (Nat.le_refl _) _
  have hrow : W4.heap[W3.heap.size]? = some (.cells (bytesRow s cap) 5 fr) := by rw [← hW4]; exact heap_alloc_new W3.drew _
  have hc : ∀ i, i < 10 → W4.cell? ⟨W3.heap.size, i, none⟩ = some (.int .u8 (bt s i)) := fun i hi => (cell_of_row W4 W3.heap.size i _ _ _ hrow).trans (row_bt s cap i (by omega))
  have hz3 : W3.heap.size = w.heap.size + 1 + 1 + 1 := by rw [← hW3]; simp
  rw [hW4, hs, hz3] at hcv
  rw [← hW3] at hcv
  rw [hz3] at hc
  have y4 := y3.below b34 y3.lt
  have m4 := m3.below b34 m3.lt
  have d4 := d3.below b34 d3.lt
  have b4 : Below w.heap.size w W4 := b3.trans (b34.mono b3.size)
  have har : ∀ W, (Instr.arrayAt 44 (.slice (some ⟨w.heap.size + 1 + 1 + 1, 0, none⟩) 10 cap)).run Tryd.prog W = .ok (.pointer (some ⟨w.heap.size + 1 + 1 + 1, 0, none⟩)) W := fun W => by kernel_rfl
  have c0 := hc 0 (by omega)
  have c1 := hc 1 (by omega)
  have c2 := hc 2 (by omega)
  have c3 := hc 3 (by omega)
  have c4 := hc 4 (by omega)
  have c5 := hc 5 (by omega)
  have c6 := hc 6 (by omega)
  have c7 := hc 7 (by omega)
  have c8 := hc 8 (by omega)
  have c9 := hc 9 (by omega)
  have HRd : Hid (Calls Tryd.prog 46 #[.agg #[.int .u8 (bt s 0), .int .u8 (bt s 1), .int .u8 (bt s 2), .int .u8 (bt s 3), .int .u8 (bt s 4), .int .u8 (bt s 5), .int .u8 (bt s 6), .int .u8 (bt s 7), .int .u8 (bt s 8), .int .u8 (bt s 9)], .slice (some ⟨W4.heap.size, 0, none⟩) 3 3] (W4.alloc (.cells #[.pointer (some ⟨w.heap.size, 0, none⟩), .pointer (some ⟨w.heap.size + 1, 0, none⟩), .pointer (some ⟨w.heap.size + 1 + 1, 0, none⟩)] 46))
      (ReadPost w.heap.size w.heap.size (w.heap.size + 1) (w.heap.size + 1 + 1) (W4.alloc (.cells #[.pointer (some ⟨w.heap.size, 0, none⟩), .pointer (some ⟨w.heap.size + 1, 0, none⟩), .pointer (some ⟨w.heap.size + 1 + 1, 0, none⟩)] 46)) (bt s 0) (bt s 1) (bt s 2) (bt s 3) (bt s 4) (bt s 5) (bt s 6) (bt s 7) (bt s 8) (bt s 9))) :=
    read_any _ _ _ _ _ _ _ _ _ _ _ _ _ _ _ ((hL.below b4).below (show Below W4.heap.size W4 _ from (by repeat (first | exact Below.refl _ _ | assumption | refine Below.alloc ?_ (by first | (simp; done) | (simp; omega) | omega) _ | refine Below.setCell ?_ (by first | (simp; done) | (simp; omega) | omega) _ | refine Below.drew ?_)))) hL.size (Nat.le_refl _) (by omega) (by omega) (by omega) (by omega) (by omega) (Blk.new _ _ _) (y4.alloc _) (m4.alloc _) (d4.alloc _)
  have HL := hid hL
  have b5 : Below w.heap.size w (W4.alloc (.cells #[.pointer (some ⟨w.heap.size, 0, none⟩), .pointer (some ⟨w.heap.size + 1, 0, none⟩), .pointer (some ⟨w.heap.size + 1 + 1, 0, none⟩)] 46)) := b4.alloc b4.size _
  have HS := hid hs
  generalize hW5 : W4.alloc (.cells #[.pointer (some ⟨w.heap.size, 0, none⟩), .pointer (some ⟨w.heap.size + 1, 0, none⟩), .pointer (some ⟨w.heap.size + 1 + 1, 0, none⟩)] 46) = W5 at *
  have H5 := hid hW5
  clear hd99 hok hc hrow hcp hfr hW4 hW3 hL y3 m3 d3 b3 b34 y4 m4 d4 b4 hW5 hz3
  go_enter Tryd.func24, Tryd.ntmps24
  go_wp2_with fail
  rw [H5.out]
  refine HRd.out.mono ?_
  rintro e w6 ⟨hb6, hres⟩
  have b6 := b5.trans hb6
  rcases hres with ⟨_, rfl, ry, rm, rd⟩ | ⟨hno, rfl⟩
  · rw [ey.out] at ry
    have q1 := (ry.cell 0).trans (b := some (Value.int .i64 Y)) rfl
    rw [em.out] at rm
    have q2 := (rm.cell 0).trans (b := some (Value.int .i64 M)) rfl
    rw [ed.out] at rd
    have q3 := (rd.cell 0).trans (b := some (Value.int .i64 D)) rfl
    clear ry rm rd
    go_wp2_with fail
    refine (HDay.out _ (HL.out.below b6)).mono ?_
    rintro e w7 ⟨rfl, h7⟩
    go_wp2_with fail
    go_ret2
    exact ⟨rfl, b6.trans (h7.mono b6.size)⟩
  · exact absurd HOK.out hno

set_option maxRecDepth 100000 in
set_option maxHeartbeats 20000000 in
theorem parse_no {s : ByteArray} {w : World} (hL : Laid w) (hs : s.size = 10) (hno : ¬ TextOk s) :
    Calls Tryd.prog 24 #[.string s] w fun e w' => e = .returned (.tuple #[.int .i64 0, .int .i64 2]) ∧ Below w.heap.size w w' := by
  have HNO : Hid (¬ TOk (bt s 0) (bt s 1) (bt s 2) (bt s 3) (bt s 4) (bt s 5) (bt s 6) (bt s 7) (bt s 8) (bt s 9)) := fun h => hno ⟨hs, h⟩
  clear hno
  obtain ⟨W3, hW3⟩ : ∃ W3, ((w.alloc (.cells #[.int .i64 0] 3)).alloc (.cells #[.int .i64 0] 3)).alloc (.cells #[.int .i64 0] 3) = W3 := ⟨_, rfl⟩
  have y3 : Blk W3 w.heap.size 3 #[.int .i64 0] := by rw [← hW3]; exact ((Blk.new _ _ _).alloc _).alloc _
  have m3 : Blk W3 (w.heap.size + 1) 3 #[.int .i64 0] := by
    rw [← hW3]; have := (Blk.new (w.alloc (.cells #[.int .i64 0] 3)) 3 #[.int .i64 0]).alloc (.cells #[.int .i64 0] 3); simpa using this
  have d3 : Blk W3 (w.heap.size + 1 + 1) 3 #[.int .i64 0] := by
    rw [← hW3]; have := Blk.new ((w.alloc (.cells #[.int .i64 0] 3)).alloc (.cells #[.int .i64 0] 3)) 3 #[.int .i64 0]; simpa using this
  have b3 : Below w.heap.size w W3 := by rw [← hW3]; exact (by repeat (first | exact Below.refl _ _ | assumption | refine Below.alloc ?_ (by first | (simp; done) | (simp; omega) | omega) _ | refine Below.setCell ?_ (by first | (simp; done) | (simp; omega) | omega) _ | refine Below.drew ?_))
  have hcv := run_bytes_of_string W3 9 33 5 s Tryd.underlying9 Tryd.underlying33 Tryd.underlying5
  generalize hcp : grownCap W3 s.size 0 5 = cap at hcv
  generalize hfr : ((bytesRow s cap).size, (bytesRow s cap).size + 1) = fr at hcv
  obtain ⟨W4, hW4⟩ : ∃ W4, W3.drew.alloc (.cells (bytesRow s cap) 5 fr) = W4 := ⟨_, rfl⟩
  have b34 : Below W3.heap.size W3 W4 := by rw [← hW4]; exact (Below.refl _ _).drew.alloc (Nat.le_refl _) _
  have hrow : W4.heap[W3.heap.size]? = some (.cells (bytesRow s cap) 5 fr) := by rw [← hW4]; exact heap_alloc_new W3.drew _
  have hc : ∀ i, i < 10 → W4.cell? ⟨W3.heap.size, i, none⟩ = some (.int .u8 (bt s i)) := fun i hi => (cell_of_row W4 W3.heap.size i _ _ _ hrow).trans (row_bt s cap i (by omega))
  have hz3 : W3.heap.size = w.heap.size + 1 + 1 + 1 := by rw [← hW3]; simp
  rw [hW4, hs, hz3] at hcv
  rw [← hW3] at hcv
  rw [hz3] at hc
  have y4 := y3.below b34 y3.lt
  have m4 := m3.below b34 m3.lt
  have d4 := d3.below b34 d3.lt
  have b4 : Below w.heap.size w W4 := b3.trans (b34.mono b3.size)
  have har : ∀ W, (Instr.arrayAt 44 (.slice (some ⟨w.heap.size + 1 + 1 + 1, 0, none⟩) 10 cap)).run Tryd.prog W = .ok (.pointer (some ⟨w.heap.size + 1 + 1 + 1, 0, none⟩)) W := fun W => by kernel_rfl
  have c0 := hc 0 (by omega)
  have c1 := hc 1 (by omega)
  have c2 := hc 2 (by omega)
  have c3 := hc 3 (by omega)
  have c4 := hc 4 (by omega)
  have c5 := hc 5 (by omega)
  have c6 := hc 6 (by omega)
  have c7 := hc 7 (by omega)
  have c8 := hc 8 (by omega)
  have c9 := hc 9 (by omega)
  have HRd : Hid (Calls Tryd.prog 46 #[.agg #[.int .u8 (bt s 0), .int .u8 (bt s 1), .int .u8 (bt s 2), .int .u8 (bt s 3), .int .u8 (bt s 4), .int .u8 (bt s 5), .int .u8 (bt s 6), .int .u8 (bt s 7), .int .u8 (bt s 8), .int .u8 (bt s 9)], .slice (some ⟨W4.heap.size, 0, none⟩) 3 3] (W4.alloc (.cells #[.pointer (some ⟨w.heap.size, 0, none⟩), .pointer (some ⟨w.heap.size + 1, 0, none⟩), .pointer (some ⟨w.heap.size + 1 + 1, 0, none⟩)] 46))
      (ReadPost w.heap.size w.heap.size (w.heap.size + 1) (w.heap.size + 1 + 1) (W4.alloc (.cells #[.pointer (some ⟨w.heap.size, 0, none⟩), .pointer (some ⟨w.heap.size + 1, 0, none⟩), .pointer (some ⟨w.heap.size + 1 + 1, 0, none⟩)] 46)) (bt s 0) (bt s 1) (bt s 2) (bt s 3) (bt s 4) (bt s 5) (bt s 6) (bt s 7) (bt s 8) (bt s 9))) :=
    read_any _ _ _ _ _ _ _ _ _ _ _ _ _ _ _ ((hL.below b4).below (show Below W4.heap.size W4 _ from (by repeat (first | exact Below.refl _ _ | assumption | refine Below.alloc ?_ (by first | (simp; done) | (simp; omega) | omega) _ | refine Below.setCell ?_ (by first | (simp; done) | (simp; omega) | omega) _ | refine Below.drew ?_)))) hL.size (Nat.le_refl _) (by omega) (by omega) (by omega) (by omega) (by omega) (Blk.new _ _ _) (y4.alloc _) (m4.alloc _) (d4.alloc _)
  have HL := hid hL
  have b5 : Below w.heap.size w (W4.alloc (.cells #[.pointer (some ⟨w.heap.size, 0, none⟩), .pointer (some ⟨w.heap.size + 1, 0, none⟩), .pointer (some ⟨w.heap.size + 1 + 1, 0, none⟩)] 46)) := b4.alloc b4.size _
  have HS := hid hs
  generalize hW5 : W4.alloc (.cells #[.pointer (some ⟨w.heap.size, 0, none⟩), .pointer (some ⟨w.heap.size + 1, 0, none⟩), .pointer (some ⟨w.heap.size + 1 + 1, 0, none⟩)] 46) = W5 at *
  have H5 := hid hW5
  clear hc hrow hcp hfr hW4 hW3 hL y3 m3 d3 b3 b34 y4 m4 d4 b4 hW5 hz3
  go_enter Tryd.func24, Tryd.ntmps24
  go_wp2_with fail
  rw [H5.out]
  refine HRd.out.mono ?_
  rintro e w6 ⟨hb6, hres⟩
  have b6 := b5.trans hb6
  rcases hres with ⟨hok, rfl, ry, rm, rd⟩ | ⟨_, rfl⟩
  · exact absurd hok HNO.out
  · go_wp2_with fail
    go_ret2
    exact ⟨rfl, b6⟩

theorem parse_any {s : ByteArray} {w : World} (hL : Laid w) (hm : s.size ≤ 9223372036854775807) :
    Calls Tryd.prog 24 #[.string s] w fun e w' => e = .returned (.tuple #[.int .i64 (parseV s), .int .i64 (parseE s)]) ∧ Below w.heap.size w w' := by
  by_cases hs : s.size = 10
  · by_cases hok : TextOk s
    · rw [(parse_in hok).1, (parse_in hok).2]
      exact parse_yes hL hok
    · rw [(parse_out hok).1, (parse_out hok).2]
      exact parse_no hL hs hok
  · have ⟨e1, e2⟩ := parse_out (s := s) (fun h => hs h.1)
    rw [e1, e2]
    exact parse_len hs hm
end Go.Proofs.YtmpkjooglpomoaaDoor
