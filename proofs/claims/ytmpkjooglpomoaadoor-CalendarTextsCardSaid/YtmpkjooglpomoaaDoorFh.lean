/- CalendarTexts' function returns true. -/
import Derived.Test.YtmpkjooglpomoaaDoorFe
import Derived.Test.YtmpkjooglpomoaaDoorDc
namespace Go.Proofs.YtmpkjooglpomoaaDoor
open Go.RowKit Go.Lib

theorem textV_list {d : Int} (h : IsD d) : (textV d).toList = txtD d := by
  rw [text_in h, ByteArray.toList_eq]; rfl
theorem textV_size {d : Int} (h : IsD d) : (textV d).size = 10 := by
  rw [text_in h]; exact strOfNums_size _

set_option maxRecDepth 100000 in
set_option maxHeartbeats 20000000 in
theorem texts_law (x y : Int) (s : ByteArray) {w : World} (hL : Laid w) (hm : s.size ≤ 9223372036854775807) :
    Calls Tryd.prog 13 #[.int .i64 x, .int .i64 y, .string s] w fun e w' => e = .returned (.bool true) ∧ Below w.heap.size w w' := by
  have HL := hid hL
  clear hL
  have P1 := hid (fun w1 => pick_any x 65536 w1 (by omega) (by omega))
  have P2 := hid (fun w1 => pick_any y 65536 w1 (by omega) (by omega))
  have ⟨x0, x1⟩ := pick_bd x (n := 65536) (by omega)
  have ⟨y0, y1⟩ := pick_bd y (n := 65536) (by omega)
  generalize x % 65536 = a at *
  generalize y % 65536 = b at *
  have ha : IsD a := ⟨x0, x1⟩
  have hb : IsD b := ⟨y0, y1⟩
  have H1 := hid (fun w1 (h1 : Laid w1) => text_any a h1)
  have H2 := hid (fun w1 (h1 : Laid w1) => text_any b h1)
  have hz := textV_size ha
  have H3 := hid (fun w1 (h1 : Laid w1) => parse_any (s := textV a) h1 (by omega))
  have e := parse_text ha
  rw [e.1, e.2] at H3
  have hq := txtD_less ha hb
  rw [← textV_list ha, ← textV_list hb] at hq
  have H4 := hid (fun w1 (h1 : Laid w1) => parse_any (s := s) h1 hm)
  have HS : Hid ((parseE s = 0 ∧ textV (parseV s) = s) ∨ (parseE s = 2 ∧ parseV s = 0)) := by
    by_cases ht : TextOk s
    · by_cases ok : DayOk (tY s) (tM s) (tD s)
      · rw [(parse_in ht).1, (parse_in ht).2]
        exact Or.inl ⟨(day_in ok).2, text_back ht ok⟩
      · rw [(parse_in ht).1, (parse_in ht).2]
        exact Or.inr ⟨(day_out ok).2, (day_out ok).1⟩
    · exact Or.inr ⟨(parse_out ht).2, (parse_out ht).1⟩
  have H5 := hid (fun w1 (h1 : Laid w1) => text_any (parseV s) h1)
  clear e ha hb
  generalize textV a = A at *
  generalize textV b = B at *
  generalize textV (parseV s) = T at *
  generalize parseV s = V at *
  generalize parseE s = E at *
  by_cases hc : a < b
  · rw [decide_eq_true hc] at hq
    by_cases hl : 100 < s.size
    · go_enter Tryd.func13, Tryd.ntmps13
      go_wp2_with fail
      refine (awake_any HL.out).mono ?_
      rintro e u1 ⟨rfl, h1⟩
      go_wp2_with fail
      refine (P1.out _).mono ?_
      rintro e u ⟨rfl, rfl⟩
      go_wp2_with fail
      refine (P2.out _).mono ?_
      rintro e u ⟨rfl, rfl⟩
      go_wp2_with fail
      refine (H1.out _ (HL.out.below h1)).mono ?_
      rintro e u ⟨rfl, hx⟩; replace h1 := h1.trans (hx.mono h1.size); clear hx
      go_wp2_with fail
      refine (H2.out _ (HL.out.below h1)).mono ?_
      rintro e u ⟨rfl, hx⟩; replace h1 := h1.trans (hx.mono h1.size); clear hx
      go_wp2_with fail
      refine (H3.out _ (HL.out.below h1)).mono ?_
      rintro e u ⟨rfl, hx⟩; replace h1 := h1.trans (hx.mono h1.size); clear hx
      go_wp2_with fail
      go_ret
      exact ⟨rfl, h1⟩
    · rcases HS.out with ⟨e1, e2⟩ | ⟨e1, e2⟩
      · subst e1
        subst e2
        clear HS
        go_enter Tryd.func13, Tryd.ntmps13
        go_wp2_with fail
        refine (awake_any HL.out).mono ?_
        rintro e u1 ⟨rfl, h1⟩
        go_wp2_with fail
        refine (P1.out _).mono ?_
        rintro e u ⟨rfl, rfl⟩
        go_wp2_with fail
        refine (P2.out _).mono ?_
        rintro e u ⟨rfl, rfl⟩
        go_wp2_with fail
        refine (H1.out _ (HL.out.below h1)).mono ?_
        rintro e u ⟨rfl, hx⟩; replace h1 := h1.trans (hx.mono h1.size); clear hx
        go_wp2_with fail
        refine (H2.out _ (HL.out.below h1)).mono ?_
        rintro e u ⟨rfl, hx⟩; replace h1 := h1.trans (hx.mono h1.size); clear hx
        go_wp2_with fail
        refine (H3.out _ (HL.out.below h1)).mono ?_
        rintro e u ⟨rfl, hx⟩; replace h1 := h1.trans (hx.mono h1.size); clear hx
        go_wp2_with fail
        refine (H4.out _ (HL.out.below h1)).mono ?_
        rintro e u ⟨rfl, hx⟩; replace h1 := h1.trans (hx.mono h1.size); clear hx
        go_wp2_with fail
        refine (H5.out _ (HL.out.below h1)).mono ?_
        rintro e u ⟨rfl, hx⟩; replace h1 := h1.trans (hx.mono h1.size); clear hx
        go_wp2_with fail
        go_ret
        exact ⟨rfl, h1⟩
      · subst e1
        subst e2
        clear HS
        go_enter Tryd.func13, Tryd.ntmps13
        go_wp2_with fail
        refine (awake_any HL.out).mono ?_
        rintro e u1 ⟨rfl, h1⟩
        go_wp2_with fail
        refine (P1.out _).mono ?_
        rintro e u ⟨rfl, rfl⟩
        go_wp2_with fail
        refine (P2.out _).mono ?_
        rintro e u ⟨rfl, rfl⟩
        go_wp2_with fail
        refine (H1.out _ (HL.out.below h1)).mono ?_
        rintro e u ⟨rfl, hx⟩; replace h1 := h1.trans (hx.mono h1.size); clear hx
        go_wp2_with fail
        refine (H2.out _ (HL.out.below h1)).mono ?_
        rintro e u ⟨rfl, hx⟩; replace h1 := h1.trans (hx.mono h1.size); clear hx
        go_wp2_with fail
        refine (H3.out _ (HL.out.below h1)).mono ?_
        rintro e u ⟨rfl, hx⟩; replace h1 := h1.trans (hx.mono h1.size); clear hx
        go_wp2_with fail
        refine (H4.out _ (HL.out.below h1)).mono ?_
        rintro e u ⟨rfl, hx⟩; replace h1 := h1.trans (hx.mono h1.size); clear hx
        go_wp2_with fail
        go_ret
        exact ⟨rfl, h1⟩
  · rw [decide_eq_false hc] at hq
    by_cases hl : 100 < s.size
    · go_enter Tryd.func13, Tryd.ntmps13
      go_wp2_with fail
      refine (awake_any HL.out).mono ?_
      rintro e u1 ⟨rfl, h1⟩
      go_wp2_with fail
      refine (P1.out _).mono ?_
      rintro e u ⟨rfl, rfl⟩
      go_wp2_with fail
      refine (P2.out _).mono ?_
      rintro e u ⟨rfl, rfl⟩
      go_wp2_with fail
      refine (H1.out _ (HL.out.below h1)).mono ?_
      rintro e u ⟨rfl, hx⟩; replace h1 := h1.trans (hx.mono h1.size); clear hx
      go_wp2_with fail
      refine (H2.out _ (HL.out.below h1)).mono ?_
      rintro e u ⟨rfl, hx⟩; replace h1 := h1.trans (hx.mono h1.size); clear hx
      go_wp2_with fail
      refine (H3.out _ (HL.out.below h1)).mono ?_
      rintro e u ⟨rfl, hx⟩; replace h1 := h1.trans (hx.mono h1.size); clear hx
      go_wp2_with fail
      go_ret
      exact ⟨rfl, h1⟩
    · rcases HS.out with ⟨e1, e2⟩ | ⟨e1, e2⟩
      · subst e1
        subst e2
        clear HS
        go_enter Tryd.func13, Tryd.ntmps13
        go_wp2_with fail
        refine (awake_any HL.out).mono ?_
        rintro e u1 ⟨rfl, h1⟩
        go_wp2_with fail
        refine (P1.out _).mono ?_
        rintro e u ⟨rfl, rfl⟩
        go_wp2_with fail
        refine (P2.out _).mono ?_
        rintro e u ⟨rfl, rfl⟩
        go_wp2_with fail
        refine (H1.out _ (HL.out.below h1)).mono ?_
        rintro e u ⟨rfl, hx⟩; replace h1 := h1.trans (hx.mono h1.size); clear hx
        go_wp2_with fail
        refine (H2.out _ (HL.out.below h1)).mono ?_
        rintro e u ⟨rfl, hx⟩; replace h1 := h1.trans (hx.mono h1.size); clear hx
        go_wp2_with fail
        refine (H3.out _ (HL.out.below h1)).mono ?_
        rintro e u ⟨rfl, hx⟩; replace h1 := h1.trans (hx.mono h1.size); clear hx
        go_wp2_with fail
        refine (H4.out _ (HL.out.below h1)).mono ?_
        rintro e u ⟨rfl, hx⟩; replace h1 := h1.trans (hx.mono h1.size); clear hx
        go_wp2_with fail
        refine (H5.out _ (HL.out.below h1)).mono ?_
        rintro e u ⟨rfl, hx⟩; replace h1 := h1.trans (hx.mono h1.size); clear hx
        go_wp2_with fail
        go_ret
        exact ⟨rfl, h1⟩
      · subst e1
        subst e2
        clear HS
        go_enter Tryd.func13, Tryd.ntmps13
        go_wp2_with fail
        refine (awake_any HL.out).mono ?_
        rintro e u1 ⟨rfl, h1⟩
        go_wp2_with fail
        refine (P1.out _).mono ?_
        rintro e u ⟨rfl, rfl⟩
        go_wp2_with fail
        refine (P2.out _).mono ?_
        rintro e u ⟨rfl, rfl⟩
        go_wp2_with fail
        refine (H1.out _ (HL.out.below h1)).mono ?_
        rintro e u ⟨rfl, hx⟩; replace h1 := h1.trans (hx.mono h1.size); clear hx
        go_wp2_with fail
        refine (H2.out _ (HL.out.below h1)).mono ?_
        rintro e u ⟨rfl, hx⟩; replace h1 := h1.trans (hx.mono h1.size); clear hx
        go_wp2_with fail
        refine (H3.out _ (HL.out.below h1)).mono ?_
        rintro e u ⟨rfl, hx⟩; replace h1 := h1.trans (hx.mono h1.size); clear hx
        go_wp2_with fail
        refine (H4.out _ (HL.out.below h1)).mono ?_
        rintro e u ⟨rfl, hx⟩; replace h1 := h1.trans (hx.mono h1.size); clear hx
        go_wp2_with fail
        go_ret
        exact ⟨rfl, h1⟩
end Go.Proofs.YtmpkjooglpomoaaDoor
