/- Texts and dates: what is read is the text of what it is read as. -/
import Derived.Test.YtmpkjooglpomoaaDoorFc
namespace Go.Proofs.YtmpkjooglpomoaaDoor
open Go.RowKit Go.Lib

theorem extract_bt (s : ByteArray) (a b j : Nat) (h : a + j < b) (hb : b ≤ s.size) : bt (s.extract a b) j = bt s (a + j) := by
  have h1 : j < (s.extract a b).size := by rw [ByteArray.size_extract]; omega
  rw [← idx_bt _ j h1, ← idx_bt s (a + j) (by omega)]
  rw [ByteArray.getElem_extract]
theorem extract_size (s : ByteArray) (a b : Nat) (hb : b ≤ s.size) : (s.extract a b).size = b - a := by
  rw [ByteArray.size_extract]; omega
theorem strOf_bt (s : ByteArray) (hs : s.size = 10) : s = strOfNums [bt s 0, bt s 1, bt s 2, bt s 3, bt s 4, bt s 5, bt s 6, bt s 7, bt s 8, bt s 9] := by
  have h2 : s.data.size = 10 := hs
  apply ByteArray.ext
  apply Array.toList_inj.1
  rw [strOfNums_data]
  apply List.ext_getElem?
  intro i
  by_cases hi : i < 10
  · have hl : i < s.data.toList.length := by simpa [h2] using hi
    have e : s.data.toList[i]? = some (UInt8.ofNat (bt s i).toNat) := by
      unfold bt
      rw [List.getD_eq_getElem?_getD, List.getElem?_eq_getElem hl]
      simp
    rw [e]
    rcases (by omega : i = 0 ∨ i = 1 ∨ i = 2 ∨ i = 3 ∨ i = 4 ∨ i = 5 ∨ i = 6 ∨ i = 7 ∨ i = 8 ∨ i = 9) with h | h | h | h | h | h | h | h | h | h <;> subst h <;> rfl
  · rw [List.getElem?_eq_none (by simp [h2]; omega), List.getElem?_eq_none (by simp; omega)]
/-- All eight digits. -/
def Digs (s : ByteArray) : Prop := (Dig (bt s 0) ∧ Dig (bt s 1) ∧ Dig (bt s 2) ∧ Dig (bt s 3)) ∧ (Dig (bt s 5) ∧ Dig (bt s 6)) ∧ (Dig (bt s 8) ∧ Dig (bt s 9))
theorem num4_digits {a b c e : Int} (ha : Dig a) (hb : Dig b) (hc : Dig c) (he : Dig e) :
    48 + num4 a b c e / 10 / 10 / 10 % 10 = a ∧ 48 + num4 a b c e / 10 / 10 % 10 = b ∧ 48 + num4 a b c e / 10 % 10 = c ∧ 48 + num4 a b c e % 10 = e := by
  unfold Dig at *; unfold num4 num2; omega
theorem num2_digits {a b : Int} (ha : Dig a) (hb : Dig b) : 48 + num2 a b / 10 % 10 = a ∧ 48 + num2 a b % 10 = b := by
  unfold Dig at *; unfold num2; omega
theorem txtI_digs {s : ByteArray} (h : Digs s) : txtI (tY s) (tM s) (tD s) = [bt s 0, bt s 1, bt s 2, bt s 3, 45, bt s 5, bt s 6, 45, bt s 8, bt s 9] := by
  obtain ⟨⟨h0, h1, h2, h3⟩, ⟨h5, h6⟩, ⟨h8, h9⟩⟩ := h
  have e1 := num4_digits h0 h1 h2 h3
  have e2 := num2_digits h5 h6
  have e3 := num2_digits h8 h9
  unfold txtI tY tM tD
  rw [e1.1, e1.2.1, e1.2.2.1, e1.2.2.2, e2.1, e2.2, e3.1, e3.2]
theorem text_of_day {y m d : Int} (h : DayOk y m d) : textV (dayV y m d) = strOfNums (txtI y m d) := by
  have ⟨a, b, c, e, f⟩ := day_mon h
  rw [text_in a, c, e, f]
/-- A text of the right form is the text of its date. -/
theorem text_back {s : ByteArray} (h : TextOk s) (hd : DayOk (tY s) (tM s) (tD s)) : textV (dayV (tY s) (tM s) (tD s)) = s := by
  rw [text_of_day hd]
  obtain ⟨hs, ⟨⟨hy, h4⟩, hm, h7⟩, hdd⟩ := h
  rw [txtI_digs ⟨hy, hm, hdd⟩]
  conv => rhs; rw [strOf_bt s hs]
  rw [h4, h7]
/-- Digits with other bytes between them are no date's text. -/
theorem text_ne {s : ByteArray} (hs : s.size = 10) (h : Digs s) (hn : ¬ TextOk s) (hd : DayOk (tY s) (tM s) (tD s)) : textV (dayV (tY s) (tM s) (tD s)) ≠ s := by
  intro e
  rw [text_of_day hd, txtI_digs h] at e
  have e4 : bt s 4 = 45 := by
    have : bt (strOfNums [bt s 0, bt s 1, bt s 2, bt s 3, 45, bt s 5, bt s 6, 45, bt s 8, bt s 9]) 4 = 45 := rfl
    rwa [e] at this
  have e7 : bt s 7 = 45 := by
    have : bt (strOfNums [bt s 0, bt s 1, bt s 2, bt s 3, 45, bt s 5, bt s 6, 45, bt s 8, bt s 9]) 7 = 45 := rfl
    rwa [e] at this
  exact hn ⟨hs, ⟨⟨h.1, e4⟩, h.2.1, e7⟩, h.2.2⟩
/-- The text of a date has the right form, and leads back. -/
theorem text_ok {d : Int} (h : IsD d) : TextOk (textV d) ∧ tY (textV d) = yr (mon d) ∧ tM (textV d) = mo (mon d) ∧ tD (textV d) = d - st (mon d) + 1 := by
  have ⟨a1, a2, a3⟩ := date_bd h
  rw [text_in h]
  generalize yr (mon d) = Y at *
  generalize mo (mon d) = M at *
  generalize d - st (mon d) + 1 = D at *
  have hb : ∀ i (n : Int), n % 10 = n % 10 → (txtI Y M D)[i]? = some (48 + n % 10) → bt (strOfNums (txtI Y M D)) i = 48 + n % 10 := by
    intro i n _ hi
    unfold bt
    rw [strOfNums_data, List.getD_eq_getElem?_getD, List.getElem?_map, hi]
    simp
    omega
  have q0 := hb 0 (Y / 10 / 10 / 10) rfl rfl
  have q1 := hb 1 (Y / 10 / 10) rfl rfl
  have q2 := hb 2 (Y / 10) rfl rfl
  have q3 := hb 3 Y rfl rfl
  have q5 := hb 5 (M / 10) rfl rfl
  have q6 := hb 6 M rfl rfl
  have q8 := hb 8 (D / 10) rfl rfl
  have q9 := hb 9 D rfl rfl
  have q4 : bt (strOfNums (txtI Y M D)) 4 = 45 := rfl
  have q7 : bt (strOfNums (txtI Y M D)) 7 = 45 := rfl
  have dg : ∀ n : Int, Dig (48 + n % 10) := fun n => by unfold Dig; omega
  refine ⟨⟨strOfNums_size _, ?_⟩, ?_, ?_, ?_⟩
  · rw [q0, q1, q2, q3, q4, q5, q6, q7, q8, q9]
    exact ⟨⟨⟨⟨dg _, dg _, dg _, dg _⟩, rfl⟩, ⟨dg _, dg _⟩, rfl⟩, dg _, dg _⟩
  · unfold tY num4 num2; rw [q0, q1, q2, q3]; omega
  · unfold tM num2; rw [q5, q6]; omega
  · unfold tD num2; rw [q8, q9]; omega
theorem parse_text {d : Int} (h : IsD d) : parseV (textV d) = d ∧ parseE (textV d) = 0 := by
  have ⟨a, b, c, e⟩ := text_ok h
  have ⟨f, g⟩ := day_of h
  rw [(parse_in a).1, (parse_in a).2, b, c, e]
  exact ⟨g, (day_in f).2⟩
end Go.Proofs.YtmpkjooglpomoaaDoor
