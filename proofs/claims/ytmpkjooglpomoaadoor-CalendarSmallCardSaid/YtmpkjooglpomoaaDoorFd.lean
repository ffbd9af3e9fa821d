/- The reference's Parse, walked. -/
import Derived.Test.YtmpkjooglpomoaaDoorFe
import Derived.Test.YtmpkjooglpomoaaDoorCi
namespace Go.Proofs.YtmpkjooglpomoaaDoor
open Go.RowKit Go.Lib

set_option maxRecDepth 100000 in
set_option maxHeartbeats 2000000 in
theorem rparse_len {s : ByteArray} {w : World} (hs : s.size ≠ 10) (_hm : s.size ≤ 9223372036854775807) :
    Calls Tryd.prog 25 #[.string s] w fun e w' => e = .returned (.tuple #[.int .i64 0, .int .i64 2]) ∧ Below w.heap.size w w' := by
  go_enter Tryd.func25, Tryd.ntmps25
  go_wp2_with fail
  go_ret2
  exact ⟨rfl, Below.refl _ _⟩

set_option maxRecDepth 100000 in
set_option maxHeartbeats 2000000 in
theorem rparse_bad {s : ByteArray} {w : World} (hs : s.size = 10) {y m d : Int} (hy : Val4 (s.extract 0 4) y) (hm : Val2 (s.extract 5 7) m) (hd : Val2 (s.extract 8 10) d) (h : ¬ DayOk y m d) :
    Calls Tryd.prog 25 #[.string s] w fun e w' => e = .returned (.tuple #[.int .i64 0, .int .i64 2]) ∧ Below w.heap.size w w' := by
  have H1 := hid (fun w1 => value4 (s.extract 0 4) w1 (by rw [ByteArray.size_extract]; omega) hy)
  have H2 := hid (fun w1 => value2 (s.extract 5 7) w1 (by rw [ByteArray.size_extract]; omega) hm)
  have H3 := hid (fun w1 => value2 (s.extract 8 10) w1 (by rw [ByteArray.size_extract]; omega) hd)
  have H4 := hid (fun w1 => rday_any y m d w1)
  rw [(day_out h).1, (day_out h).2] at H4
  clear hy hm hd h
  go_enter Tryd.func25, Tryd.ntmps25
  go_wp2_with fail
  go_quiet ((first
    | (go_at_call 47; (with_reducible exact Calls.quiet_of_same (H1.out _)))
    | (go_at_call 47; (with_reducible exact Calls.quiet_of_same (H2.out _)))
    | (go_at_call 47; (with_reducible exact Calls.quiet_of_same (H3.out _)))
    | (go_at_call 16; (with_reducible exact Calls.quiet_of_same (H4.out _)))))
  go_wp2_with fail
  go_ret2
  exact ⟨rfl, below_drewN _ _⟩

theorem bytes_ne {a b : ByteArray} (h : a ≠ b) : (a.toList == b.toList) = false := by
  rw [beq_eq_false_iff_ne]
  intro e
  rw [ByteArray.toList_eq, ByteArray.toList_eq] at e
  exact h (ByteArray.ext (Array.toList_inj.1 e))

set_option maxRecDepth 100000 in
set_option maxHeartbeats 2000000 in
theorem rparse_good {s T : ByteArray} {w : World} (hs : s.size = 10) {y m d V : Int} (hy : Val4 (s.extract 0 4) y) (hm : Val2 (s.extract 5 7) m) (hd : Val2 (s.extract 8 10) d) (h : DayOk y m d) (hV : dayV y m d = V) (hT : textV V = T) (hne : T ≠ s) :
    Calls Tryd.prog 25 #[.string s] w fun e w' => e = .returned (.tuple #[.int .i64 0, .int .i64 2]) ∧ Below w.heap.size w w' := by
  have H1 := hid (fun w1 => value4 (s.extract 0 4) w1 (by rw [ByteArray.size_extract]; omega) hy)
  have H2 := hid (fun w1 => value2 (s.extract 5 7) w1 (by rw [ByteArray.size_extract]; omega) hm)
  have H3 := hid (fun w1 => value2 (s.extract 8 10) w1 (by rw [ByteArray.size_extract]; omega) hd)
  have H4 := hid (fun w1 => rday_any y m d w1)
  have H5 := hid (fun w1 => rtext_any V w1)
  rw [hV, (day_in h).2] at H4
  rw [hT] at H5
  have hq := bytes_ne hne
  clear hy hm hd h hV hT hne
  go_enter Tryd.func25, Tryd.ntmps25
  go_wp2_with fail
  go_quiet ((first
    | (go_at_call 47; (with_reducible exact Calls.quiet_of_same (H1.out _)))
    | (go_at_call 47; (with_reducible exact Calls.quiet_of_same (H2.out _)))
    | (go_at_call 47; (with_reducible exact Calls.quiet_of_same (H3.out _)))
    | (go_at_call 16; (with_reducible exact Calls.quiet_of_same (H4.out _)))))
  go_wp2_with fail
  refine (H5.out _).mono ?_
  rintro e u ⟨rfl, hu⟩
  go_wp2_with fail
  go_ret2
  exact ⟨rfl, (below_drewN w _).trans (hu.mono (below_drewN w _).size)⟩
set_option maxRecDepth 100000 in
set_option maxHeartbeats 2000000 in
theorem rparse_yes {s : ByteArray} {w : World} (hs : s.size = 10) {y m d V : Int} (hy : Val4 (s.extract 0 4) y) (hm : Val2 (s.extract 5 7) m) (hd : Val2 (s.extract 8 10) d) (h : DayOk y m d) (hV : dayV y m d = V) (hT : textV V = s) :
    Calls Tryd.prog 25 #[.string s] w fun e w' => e = .returned (.tuple #[.int .i64 V, .int .i64 0]) ∧ Below w.heap.size w w' := by
  have H1 := hid (fun w1 => value4 (s.extract 0 4) w1 (by rw [ByteArray.size_extract]; omega) hy)
  have H2 := hid (fun w1 => value2 (s.extract 5 7) w1 (by rw [ByteArray.size_extract]; omega) hm)
  have H3 := hid (fun w1 => value2 (s.extract 8 10) w1 (by rw [ByteArray.size_extract]; omega) hd)
  have H4 := hid (fun w1 => rday_any y m d w1)
  have H5 := hid (fun w1 => rtext_any V w1)
  rw [hV, (day_in h).2] at H4
  rw [hT] at H5
  clear hy hm hd h hV hT
  go_enter Tryd.func25, Tryd.ntmps25
  go_wp2_with fail
  go_quiet ((first
    | (go_at_call 47; (with_reducible exact Calls.quiet_of_same (H1.out _)))
    | (go_at_call 47; (with_reducible exact Calls.quiet_of_same (H2.out _)))
    | (go_at_call 47; (with_reducible exact Calls.quiet_of_same (H3.out _)))
    | (go_at_call 16; (with_reducible exact Calls.quiet_of_same (H4.out _)))))
  go_wp2_with fail
  refine (H5.out _).mono ?_
  rintro e u ⟨rfl, hu⟩
  go_wp2_with fail
  go_ret2
  exact ⟨rfl, (below_drewN w _).trans (hu.mono (below_drewN w _).size)⟩
theorem vok4_iff {s : ByteArray} (hs : s.size = 10) : Vok4 (s.extract 0 4) ↔ (Dig (bt s 0) ∧ Dig (bt s 1) ∧ Dig (bt s 2) ∧ Dig (bt s 3)) := by
  unfold Vok4
  rw [extract_bt s 0 4 0 (by omega) (by omega), extract_bt s 0 4 1 (by omega) (by omega), extract_bt s 0 4 2 (by omega) (by omega), extract_bt s 0 4 3 (by omega) (by omega)]
theorem vok2_iff {s : ByteArray} (hs : s.size = 10) (a b : Nat) (h : a + 1 < b) (hb : b ≤ 10) : Vok2 (s.extract a b) ↔ (Dig (bt s a) ∧ Dig (bt s (a + 1))) := by
  unfold Vok2
  rw [extract_bt s a b 0 (by omega) (by omega), extract_bt s a b 1 (by omega) (by omega)]; rfl
open Classical in
theorem val4_ex {s : ByteArray} (hs : s.size = 10) : ∃ v, Val4 (s.extract 0 4) v ∧ ((Dig (bt s 0) ∧ Dig (bt s 1) ∧ Dig (bt s 2) ∧ Dig (bt s 3)) → v = tY s) ∧ (¬ (Dig (bt s 0) ∧ Dig (bt s 1) ∧ Dig (bt s 2) ∧ Dig (bt s 3)) → v = -1) := by
  have e : num4 (bt (s.extract 0 4) 0) (bt (s.extract 0 4) 1) (bt (s.extract 0 4) 2) (bt (s.extract 0 4) 3) = tY s := by
    rw [extract_bt s 0 4 0 (by omega) (by omega), extract_bt s 0 4 1 (by omega) (by omega), extract_bt s 0 4 2 (by omega) (by omega), extract_bt s 0 4 3 (by omega) (by omega)]; rfl
  unfold Val4
  rw [vok4_iff hs, e]
  by_cases h : Dig (bt s 0) ∧ Dig (bt s 1) ∧ Dig (bt s 2) ∧ Dig (bt s 3)
  · exact ⟨tY s, ⟨fun _ => rfl, fun g => absurd h g⟩, fun _ => rfl, fun g => absurd h g⟩
  · exact ⟨-1, ⟨fun g => absurd g h, fun _ => rfl⟩, fun g => absurd g h, fun _ => rfl⟩
open Classical in
theorem val2_ex {s : ByteArray} (hs : s.size = 10) (a b : Nat) (hab : a + 1 < b) (hb : b ≤ 10) : ∃ v, Val2 (s.extract a b) v ∧ ((Dig (bt s a) ∧ Dig (bt s (a + 1))) → v = num2 (bt s a) (bt s (a + 1))) ∧ (¬ (Dig (bt s a) ∧ Dig (bt s (a + 1))) → v = -1) := by
  have e : num2 (bt (s.extract a b) 0) (bt (s.extract a b) 1) = num2 (bt s a) (bt s (a + 1)) := by
    rw [extract_bt s a b 0 (by omega) (by omega), extract_bt s a b 1 (by omega) (by omega)]; rfl
  unfold Val2
  rw [vok2_iff hs a b hab hb, e]
  by_cases h : Dig (bt s a) ∧ Dig (bt s (a + 1))
  · exact ⟨_, ⟨fun _ => rfl, fun g => absurd h g⟩, fun _ => rfl, fun g => absurd h g⟩
  · exact ⟨-1, ⟨fun g => absurd g h, fun _ => rfl⟩, fun g => absurd g h, fun _ => rfl⟩

theorem rparse_any {s : ByteArray} {w : World} (hm : s.size ≤ 9223372036854775807) :
    Calls Tryd.prog 25 #[.string s] w fun e w' => e = .returned (.tuple #[.int .i64 (parseV s), .int .i64 (parseE s)]) ∧ Below w.heap.size w w' := by
  by_cases hs : s.size = 10
  · obtain ⟨y, hy, y1, y2⟩ := val4_ex hs
    obtain ⟨m, hmm, m1, m2⟩ := val2_ex hs 5 7 (by omega) (by omega)
    obtain ⟨d, hd, d1, d2⟩ := val2_ex hs 8 10 (by omega) (by omega)
    by_cases hg : Digs s
    · obtain ⟨g1, g2, g3⟩ := hg
      have e1 : y = tY s := y1 g1
      have e2 : m = tM s := m1 g2
      have e3 : d = tD s := d1 g3
      by_cases ok : DayOk (tY s) (tM s) (tD s)
      · by_cases ht : TextOk s
        · rw [(parse_in ht).1, (parse_in ht).2, (day_in ok).2]
          exact rparse_yes hs (e1 ▸ hy) (e2 ▸ hmm) (e3 ▸ hd) ok rfl (text_back ht ok)
        · rw [(parse_out ht).1, (parse_out ht).2]
          exact rparse_good hs (e1 ▸ hy) (e2 ▸ hmm) (e3 ▸ hd) ok rfl rfl (text_ne hs ⟨g1, g2, g3⟩ ht ok)
      · have e : parseV s = 0 ∧ parseE s = 2 := by
          by_cases ht : TextOk s
          · rw [(parse_in ht).1, (parse_in ht).2]; exact day_out ok
          · exact parse_out ht
        rw [e.1, e.2]
        exact rparse_bad hs hy hmm hd (by rw [e1, e2, e3]; exact ok)
    · have e := parse_out (s := s) (fun h => hg ⟨h.2.1.1.1, h.2.1.2.1, h.2.2⟩)
      rw [e.1, e.2]
      refine rparse_bad hs hy hmm hd (fun ok => ?_)
      obtain ⟨o1, o2, o3, o4, _⟩ := ok
      have om := lenM_pos o3 o4
      by_cases q1 : Dig (bt s 0) ∧ Dig (bt s 1) ∧ Dig (bt s 2) ∧ Dig (bt s 3)
      · by_cases q2 : Dig (bt s 5) ∧ Dig (bt s (5 + 1))
        · by_cases q3 : Dig (bt s 8) ∧ Dig (bt s (8 + 1))
          · exact hg ⟨q1, q2, q3⟩
          · have := d2 q3; omega
        · have := m2 q2; omega
      · have := y2 q1; omega
  · have e := parse_out (s := s) (fun h => hs h.1)
    rw [e.1, e.2]
    exact rparse_len hs hm
end Go.Proofs.YtmpkjooglpomoaaDoor
