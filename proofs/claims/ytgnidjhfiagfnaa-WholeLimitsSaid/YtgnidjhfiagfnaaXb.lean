/- The decimal form of a number. Conditions: the number is in memory. -/
import Derived.Test.YtgnidjhfiagfnaaXa
import Derived.Laws.BytesArg
namespace Go.Proofs.Ytgnidjhfiagfnaa
open Go.RowKit

/-- The bytes of the decimal form. -/
def form (x : Bool) (n : Nat) : List Nat := (if x then [45] else []) ++ ((tens n).map (48 + ·)).reverse
def asInts (l : List Nat) : List Int := l.map fun x : Nat => (x : Int)

theorem chars_bytes (l : List Nat) : chars l = bytesV (l.map (48 + ·)) := by
  unfold chars bytesV
  rw [List.map_map]
  rfl
theorem tens_pos (n : Nat) : 0 < (tens n).length := by
  unfold tens
  split
  · simp
  · rename_i h
    rw [ddigs_pos h]; simp
theorem tens_lt (n : Nat) : ∀ x ∈ tens n, x < 10 := by
  unfold tens
  split
  · intro x hx; simp at hx; omega
  · exact decs_digs n
theorem nth_map48 {l : List Nat} (h : ∀ x ∈ l, x < 10) (j : Nat) (hj : j < l.length) : nth (l.map (48 + ·)) j < 256 := by
  unfold nth
  rw [List.getD_eq_getElem?_getD, List.getElem?_map, List.getElem?_eq_getElem hj]
  have := h _ (List.getElem_mem hj)
  simp
  omega

theorem conv_own {w : World} {base g n c : Nat} {L : List Nat} (own : w.ownsRow base 5 1 (.slice (some ⟨g, 0, none⟩) n c) n (bytesV L)) (hn : Hid (L.length = n)) :
    (convert 48 9 (.slice (some ⟨g, 0, none⟩) n c)).run Try.prog w = .ok (.string (strOfNums (asInts L))) w := by
  refine run_convert_bytes_arg w 48 5 Try.underlying48 Try.underlying5 g 0 n c (asInts L) (by unfold asInts; rw [List.length_map]; exact hn.out) (fun i hi => ?_) 9 Try.underlying9
  rw [Nat.zero_add, own.cellAt i (by omega), bytesV_at (by rw [hn.out]; exact hi)]
  unfold asInts nth
  simp [List.getD_eq_getElem?_getD, show i < L.length from by rw [hn.out]; exact hi]

theorem tens_len (n : Nat) {k : Nat} (h : n < 10 ^ k) (hk : 0 < k) : (tens n).length ≤ k := by
  unfold tens
  split
  · simp; omega
  · exact ddigs_length h

theorem pow_tens {n k : Nat} (h : n < 65536 ^ k) : n < 10 ^ (5 * k) := by
  rw [Nat.pow_mul]
  exact Nat.lt_of_lt_of_le h (Nat.pow_le_pow_left (by decide) k)

set_option maxRecDepth 100000 in
set_option maxHeartbeats 400000 in
theorem text_bad (x : Bool) (l : List Nat) (A : Option Addr) (n c : Nat) (w : World) (hs : Sl w (.slice A n c) l) (hn : Hid (l.length = n)) (hv : validB x l = false) :
    Calls Try.prog 21 #[.agg #[.bool x, .slice A n c]] w fun e w' => e = .returned (.tuple #[.string ⟨#[]⟩, .int .i64 2]) ∧ Below w.heap.size w w' := by
  obtain ⟨W0, hW0⟩ : ∃ W0, (w.alloc (.cells #[.bool x, .slice A n c] 26)).alloc (.cells #[.bool x, .slice A n c] 26) = W0 := ⟨_, rfl⟩
  have b1 : Blk W0 (w.heap.size + 1) 26 #[.bool x, .slice A n c] := by
    rw [← hW0]
    have := (Blk.new (w.alloc (.cells #[.bool x, .slice A n c] 26)) 26 #[.bool x, .slice A n c])
    rwa [World.size_alloc] at this
  have bw : Below w.heap.size w W0 := by rw [← hW0]; exact (by repeat (first | exact Below.refl _ _ | assumption | refine Below.alloc ?_ (by first | (simp; done) | (simp; omega) | omega) _ | refine Below.setCell ?_ (by first | (simp; done) | (simp; omega) | omega) _ | refine Below.drew ?_))
  have HW : Hid ((w.alloc (.cells #[.bool x, .slice A n c] 26)).alloc (.cells #[.bool x, .slice A n c] 26) = W0) := hW0
  clear hW0
  have h1 := allValid1 (hs.below bw) hn b1
  rw [hv] at h1
  have H1 : Hid (Calls Try.prog 48 #[.slice (some ⟨w.heap.size + 1, 0, none⟩) 1 1] W0 fun e w' => e = .returned (.bool false) ∧ Below W0.heap.size W0 w') := h1
  clear h1 hv hs
  go_enter Try.func21, Try.ntmps21
  go_wp2_with (rw [HW.out]; go_at_call 48; refine H1.out.mono ?_; rintro e w1 ⟨rfl, hb1⟩)
  go_ret2
  exact ⟨rfl, bw.trans (hb1.mono bw.size)⟩

set_option maxRecDepth 100000 in
set_option maxHeartbeats 2000000 in
theorem text_pos (l : List Nat) (A : Option Addr) (n c : Nat) (w : World) (hs : Sl w (.slice A n c) l) (hn : Hid (l.length = n)) (hv : validB false l = true) :
    Calls Try.prog 21 #[.agg #[.bool false, .slice A n c]] w fun e w' => e = .returned (.tuple #[.string (strOfNums (asInts (form false (val l)))), .int .i64 0]) ∧ Below w.heap.size w w' := by
  obtain ⟨W0, hW0⟩ : ∃ W0, (w.alloc (.cells #[.bool false, .slice A n c] 26)).alloc (.cells #[.bool false, .slice A n c] 26) = W0 := ⟨_, rfl⟩
  have b0 : Blk W0 w.heap.size 26 #[.bool false, .slice A n c] := by rw [← hW0]; exact (Blk.new w _ _).alloc _
  have b1 : Blk W0 (w.heap.size + 1) 26 #[.bool false, .slice A n c] := by
    rw [← hW0]
    have := (Blk.new (w.alloc (.cells #[.bool false, .slice A n c] 26)) 26 #[.bool false, .slice A n c])
    rwa [World.size_alloc] at this
  have bw : Below w.heap.size w W0 := by rw [← hW0]; exact (by repeat (first | exact Below.refl _ _ | assumption | refine Below.alloc ?_ (by first | (simp; done) | (simp; omega) | omega) _ | refine Below.setCell ?_ (by first | (simp; done) | (simp; omega) | omega) _ | refine Below.drew ?_))
  have HW : Hid ((w.alloc (.cells #[.bool false, .slice A n c] 26)).alloc (.cells #[.bool false, .slice A n c] 26) = W0) := hW0
  clear hW0
  have h1 := allValid1 (hs.below bw) hn b1
  rw [hv] at h1
  have hvn := valid_norm hs.1 hv
  have H1 : Hid (Calls Try.prog 48 #[.slice (some ⟨w.heap.size + 1, 0, none⟩) 1 1] W0 fun e w' => e = .returned (.bool true) ∧ Below W0.heap.size W0 w') := h1
  have H2 : Hid (∀ w1, Below W0.heap.size W0 w1 → Calls Try.prog 49 #[.slice A n c] w1 fun e w' => ∃ A' c', e = .returned (.slice A' (tens (val l)).length c') ∧ w'.ownsRow w1.heap.size 5 1 (.slice A' (tens (val l)).length c') (tens (val l)).length (chars (tens (val l))) ∧ Below w1.heap.size w1 w') := fun w1 hb =>
    digitsUpward_any l A n c w1 ((hs.below bw).below hb) hn hvn.1 (by have := hn.out; omega)
  have hlen : (tens (val l)).length ≤ 10000 := by
    have h1 := val_lt hvn.1.1
    have h2 := tens_len (val l) (pow_tens (Nat.lt_of_lt_of_le h1 (Nat.pow_le_pow_right (by omega) hvn.2.1))) (by omega)
    omega
  have htl := tens_lt (val l)
  have htp := tens_pos (val l)
  obtain ⟨T, hT⟩ : ∃ T, tens (val l) = T := ⟨_, rfl⟩
  have hform : form false (val l) = (T.map (48 + ·)).reverse := by unfold form; rw [hT]; simp
  rw [hform]
  rw [hT] at H2 hlen htl htp
  obtain ⟨k, hk⟩ : ∃ k, T.length = k := ⟨_, rfl⟩
  have HK : Hid ((T.map (48 + ·)).length = k) := by show _ = _; rw [List.length_map, hk]
  have HB : Hid (∀ j, j < k → nth (T.map (48 + ·)) j < 256) := fun j hj => nth_map48 htl j (by rw [hk]; exact hj)
  rw [hk] at H2 hlen htp
  rw [chars_bytes] at H2
  have l0 := b0.lt
  clear h1 hv hs hvn hform hT hk htl
  go_enter Try.func21, Try.ntmps21
  go_wp2_with (first
    | (rw [HW.out]; go_at_call 48; refine H1.out.mono ?_; clear H1; rintro e w1 ⟨rfl, hb1⟩; have e0 := b0.below hb1 l0; have g0 := (e0.cell 0).trans (b := some (Value.bool false)) rfl; have g1 := (e0.cell 1).trans (b := some (Value.slice A n c)) rfl; have l1 := e0.lt)
    | (go_at_call 49; refine (H2.out _ hb1).mono ?_; clear H2; rintro e w2 ⟨A2, c2, rfl, own2, hb2⟩; obtain ⟨g, rfl, hg1, hg2⟩ := own_addr own2 htp; have e2 := e0.below hb2 l1; have i0 := (e2.cell 0).trans (b := some (Value.bool false)) rfl; have i1 := (e2.cell 1).trans (b := some (Value.slice A n c)) rfl; have l2 := e2.lt)
    | (go_at_call 50; refine (reverse_any w1.heap.size g k c2 (T.map (48 + ·)) _ HK HB.out (by omega) own2 hg2).mono ?_; rintro e w3 ⟨rfl, own3, hgr3⟩; have hcv := conv_own own3 (by show _ = _; rw [List.length_reverse]; exact HK.out)))
  go_ret2
  have B1 := Nat.le_trans bw.size hb1.size
  exact ⟨rfl, ((bw.trans (hb1.mono bw.size)).trans (hb2.mono B1)).grown hgr3 (Nat.le_trans B1 hb2.size) (fun k e => by injection e with e1; omega)⟩
theorem own_app {w : World} {base g k c : Nat} {L : List Nat} (_hk : Hid (L.length = k)) (own : w.ownsRow base 5 1 (.slice (some ⟨g, 0, none⟩) (k + 1) c) (k + 1) (bytesV L ++ [.int .u8 45])) :
    w.ownsRow base 5 1 (.slice (some ⟨g, 0, none⟩) (k + 1) c) (k + 1) (bytesV (L ++ [45])) := by
  have : bytesV (L ++ [45]) = bytesV L ++ [.int .u8 45] := by unfold bytesV; rw [List.map_append]; rfl
  rw [this]; exact own
theorem HK_app {L : List Nat} {k : Nat} (h : Hid (L.length = k)) : Hid ((L ++ [45]).length = k + 1) := by show _ = _; rw [List.length_append, h.out]; rfl
theorem HB_app {L : List Nat} {k : Nat} (hk : Hid (L.length = k)) (h : Hid (∀ j, j < k → nth L j < 256)) : Hid (∀ j, j < k + 1 → nth (L ++ [45]) j < 256) := by
  intro j hj
  rcases Nat.lt_or_ge j k with h1 | h1
  · rw [nth_append (by rw [hk.out]; exact h1)]; exact h.out j h1
  · obtain rfl : j = k := by omega
    have := nth_snoc L 45
    rw [hk.out] at this
    rw [this]; omega

set_option maxRecDepth 100000 in
set_option maxHeartbeats 2000000 in
theorem text_neg (l : List Nat) (A : Option Addr) (n c : Nat) (w : World) (hs : Sl w (.slice A n c) l) (hn : Hid (l.length = n)) (hv : validB true l = true) :
    Calls Try.prog 21 #[.agg #[.bool true, .slice A n c]] w fun e w' => e = .returned (.tuple #[.string (strOfNums (asInts (form true (val l)))), .int .i64 0]) ∧ Below w.heap.size w w' := by
  obtain ⟨i0', hi, hz0, hz1, hz2⟩ := info_parts info5
  obtain ⟨W0, hW0⟩ : ∃ W0, (w.alloc (.cells #[.bool true, .slice A n c] 26)).alloc (.cells #[.bool true, .slice A n c] 26) = W0 := ⟨_, rfl⟩
  have b0 : Blk W0 w.heap.size 26 #[.bool true, .slice A n c] := by rw [← hW0]; exact (Blk.new w _ _).alloc _
  have b1 : Blk W0 (w.heap.size + 1) 26 #[.bool true, .slice A n c] := by
    rw [← hW0]
    have := (Blk.new (w.alloc (.cells #[.bool true, .slice A n c] 26)) 26 #[.bool true, .slice A n c])
    rwa [World.size_alloc] at this
  have bw : Below w.heap.size w W0 := by rw [← hW0]; exact (by repeat (first | exact Below.refl _ _ | assumption | refine Below.alloc ?_ (by first | (simp; done) | (simp; omega) | omega) _ | refine Below.setCell ?_ (by first | (simp; done) | (simp; omega) | omega) _ | refine Below.drew ?_))
  have HW : Hid ((w.alloc (.cells #[.bool true, .slice A n c] 26)).alloc (.cells #[.bool true, .slice A n c] 26) = W0) := hW0
  clear hW0
  have h1 := allValid1 (hs.below bw) hn b1
  rw [hv] at h1
  have hvn := valid_norm hs.1 hv
  have H1 : Hid (Calls Try.prog 48 #[.slice (some ⟨w.heap.size + 1, 0, none⟩) 1 1] W0 fun e w' => e = .returned (.bool true) ∧ Below W0.heap.size W0 w') := h1
  have H2 : Hid (∀ w1, Below W0.heap.size W0 w1 → Calls Try.prog 49 #[.slice A n c] w1 fun e w' => ∃ A' c', e = .returned (.slice A' (tens (val l)).length c') ∧ w'.ownsRow w1.heap.size 5 1 (.slice A' (tens (val l)).length c') (tens (val l)).length (chars (tens (val l))) ∧ Below w1.heap.size w1 w') := fun w1 hb =>
    digitsUpward_any l A n c w1 ((hs.below bw).below hb) hn hvn.1 (by have := hn.out; omega)
  have hlen : (tens (val l)).length ≤ 10000 := by
    have h1 := val_lt hvn.1.1
    have h2 := tens_len (val l) (pow_tens (Nat.lt_of_lt_of_le h1 (Nat.pow_le_pow_right (by omega) hvn.2.1))) (by omega)
    omega
  have htl := tens_lt (val l)
  have htp := tens_pos (val l)
  obtain ⟨T, hT⟩ : ∃ T, tens (val l) = T := ⟨_, rfl⟩
  have hform : form true (val l) = 45 :: (T.map (48 + ·)).reverse := by unfold form; rw [hT]; simp
  rw [hform]
  rw [hT] at H2 hlen htl htp
  obtain ⟨k, hk⟩ : ∃ k, T.length = k := ⟨_, rfl⟩
  have HK : Hid ((T.map (48 + ·)).length = k) := by show _ = _; rw [List.length_map, hk]
  have HB : Hid (∀ j, j < k → nth (T.map (48 + ·)) j < 256) := fun j hj => nth_map48 htl j (by rw [hk]; exact hj)
  rw [hk] at H2 hlen htp
  rw [chars_bytes] at H2
  have l0 := b0.lt
  clear h1 hv hs hvn hform hT hk htl
  go_enter Try.func21, Try.ntmps21
  go_wp2_with (first
    | (rw [HW.out]; go_at_call 48; refine H1.out.mono ?_; clear H1; rintro e w1 ⟨rfl, hb1⟩; have e0 := b0.below hb1 l0; have g0 := (e0.cell 0).trans (b := some (Value.bool true)) rfl; have g1 := (e0.cell 1).trans (b := some (Value.slice A n c)) rfl; have l1 := e0.lt)
    | (go_at_call 49; refine (H2.out _ hb1).mono ?_; clear H2; rintro e w2 ⟨A2, c2, rfl, own2, hb2⟩; obtain ⟨g, rfl, hg1, hg2⟩ := own_addr own2 htp; have e2 := e0.below hb2 l1; have i0 := (e2.cell 0).trans (b := some (Value.bool true)) rfl; have i1 := (e2.cell 1).trans (b := some (Value.slice A n c)) rfl; have l2 := e2.lt)
    | (at_builtin; refine wpList_append_own _ rfl _ _ 48 rfl w1.heap.size 5 i0' (.int .u8 0) 1 1 Try.underlying48 hi hz0 hz1 hz2 rfl (by decide) _ _ _ rfl (own2.alloc _) ⟨w2.heap.size, 0, none⟩ 1 1 [.int .u8 45] rfl rfl (cell_one_new _ _ _) (by intro u hu; simp at hu; subst hu; rfl) (by unfold maxLen; omega) (by omega) (by have := hb2.size; simp; omega) ?_; intro v' w2b hown' hgrow _; obtain ⟨g3, c3, rfl⟩ := ownsRow_succ hown'; have hg3 := hown'.lt g3 rfl; have ownA := own_app HK hown'; have HKA := HK_app HK; have HBA := HB_app HK HB)
    | (go_at_call 50; refine (reverse_any w1.heap.size g3 (k + 1) c3 (T.map (48 + ·) ++ [45]) _ HKA HBA.out (by omega) ownA hg3.2).mono ?_; rintro e w3 ⟨rfl, own3, hgr3⟩; have hcv := conv_own own3 (by show _ = _; rw [List.length_reverse]; exact HKA.out)))
  go_ret2
  have B1 := Nat.le_trans bw.size hb1.size
  have B2 := Nat.le_trans B1 hb2.size
  have bz := ((bw.trans (hb1.mono bw.size)).trans (hb2.mono B1)).alloc B2 (.cells #[.int .u8 45] 5)
  have bz2 := bz.grown hgrow bz.size (fun k e => by have := (own2.lt k e).1; omega)
  exact ⟨rfl, bz2.grown hgr3 bz2.size (fun k e => by injection e with e1; have := hg3.1; omega)⟩

theorem text_wh {w : World} {v : Value} {x : Bool} {l : List Nat} (h : Wh w v x l) (hv : validB x l = true) :
    Calls Try.prog 21 #[v] w fun e w' => e = .returned (.tuple #[.string (strOfNums (asInts (form x (val l)))), .int .i64 0]) ∧ Below w.heap.size w w' := by
  obtain ⟨A, c, rfl, hs⟩ := h
  cases x
  · exact text_pos l A _ c w hs rfl hv
  · exact text_neg l A _ c w hs rfl hv
theorem text_inv {w : World} {v : Value} {x : Bool} {l : List Nat} (h : Wh w v x l) (hv : validB x l = false) :
    Calls Try.prog 21 #[v] w fun e w' => e = .returned (.tuple #[.string ⟨#[]⟩, .int .i64 2]) ∧ Below w.heap.size w w' := by
  obtain ⟨A, c, rfl, hs⟩ := h
  exact text_bad x l A _ c w hs rfl hv
end Go.Proofs.Ytgnidjhfiagfnaa
