/- Contract of shiftDown. Conditions: the limbs lie in a row of their own. -/
import Derived.Test.YtgnidjhfiagfnaaYa
namespace Go.Proofs.Ytgnidjhfiagfnaa
open Go.RowKit
attribute [local go_sem] Oper.semAt_some

/-- The limbs from k on were shifted down; up is the limb above. -/
structure Dn (L : List Nat) (s k : Nat) (Q : List Nat) (up : Nat) : Prop where
  len : Q.length + k = L.length
  limbs : Limbs Q
  low : up < 65536
  eq : val Q = val (L.drop k) / 2 ^ s
  rem : val (L.drop k) % 2 ^ s = up % 2 ^ s

theorem shift_digit {s up x V Vq : Nat} (hs : s ≤ 15) (hx : x < 65536) (hr : V % 2 ^ s = up % 2 ^ s) (hq : Vq = V / 2 ^ s) :
    (x + 65536 * V) / 2 ^ s = (up * 65536 + x) / 2 ^ s % 65536 + 65536 * Vq ∧ (x + 65536 * V) % 2 ^ s = x % 2 ^ s := by
  obtain ⟨C, hC⟩ : ∃ C, 2 ^ (16 - s) = C := ⟨_, rfl⟩
  have e : 65536 = 2 ^ s * C := by rw [← hC, ← Nat.pow_add, show s + (16 - s) = 16 by omega]
  have hP : 0 < 2 ^ s := Nat.two_pow_pos s
  generalize 2 ^ s = P at *
  have hV := Nat.div_add_mod V P
  have hU := Nat.div_add_mod up P
  rw [hr, ← hq] at hV
  have hlt := Nat.mod_lt up hP
  generalize up % P = t at *
  generalize up / P = u at *
  have h1 : x / P < C := by
    rw [Nat.div_lt_iff_lt_mul hP, Nat.mul_comm, ← e]; exact hx
  have h2 : (x + 65536 * V) / P = x / P + C * V := by
    have : x + 65536 * V = x + C * V * P := by rw [e]; grind
    rw [this, Nat.add_mul_div_right _ _ hP]
  have h3 : (up * 65536 + x) / P = x / P + C * up := by
    have : up * 65536 + x = x + C * up * P := by rw [e]; grind
    rw [this, Nat.add_mul_div_right _ _ hP]
  have h4 : (x + 65536 * V) % P = x % P := by
    have : x + 65536 * V = x + P * (C * V) := by rw [e]; grind
    rw [this, Nat.add_mul_mod_self_left]
  refine ⟨?_, h4⟩
  rw [h2, h3]
  have h5 : x / P + C * up = x / P + C * t + 65536 * u := by rw [← hU, e]; grind
  have h6 : x / P + C * t < 65536 := by
    have : C * (t + 1) ≤ C * P := Nat.mul_le_mul_left _ hlt
    have e2 : C * P = 65536 := by rw [e, Nat.mul_comm]
    have e3 : C * (t + 1) = C * t + C := by grind
    omega
  rw [h5, Nat.add_mul_mod_self_left, Nat.mod_eq_of_lt h6]
  have h7 : C * V = 65536 * Vq + C * t := by rw [← hV, e]; grind
  omega

theorem Dn.step {L Q : List Nat} {s k up : Nat} (hL : Limbs L) (hs : s ≤ 15) (h : Dn L s (k + 1) Q up) : Dn L s k ((up * 65536 + nth L k) / 2 ^ s % 65536 :: Q) (nth L k) := by
  have hk : k < L.length := by have := h.len; omega
  have hd := shift_digit hs (nth_lt hL k) h.rem h.eq
  rw [← val_drop hk] at hd
  refine ⟨by have := h.len; simp; omega, ?_, nth_lt hL k, ?_, hd.2⟩
  · rw [limbs_cons]
    exact ⟨Nat.mod_lt _ (by omega), h.limbs⟩
  · rw [hd.1]
    simp only [val]

theorem wide_or {ab up x : Nat} (h : ab < 4294967296) (hu : ab % 65536 = up) (hx : x < 65536) : bits .or .u32 ((ab : Int) * 65536 % 4294967296) (x : Int) = ((up * 65536 + x : Nat) : Int) := by
  have e : (ab : Int) * 65536 % 4294967296 = ((up * 65536 : Nat) : Int) := by omega
  rw [e]
  have h1 : up * 65536 ||| x = up * 65536 + x := by
    have := Nat.shiftLeft_add_eq_or_of_lt (b := x) (i := 16) hx up
    rw [Nat.shiftLeft_eq] at this
    exact this.symm
  have h32 : ∀ y : Nat, y < 4294967296 → (BitVec.ofInt 32 (y : Int)).toNat = y := fun y hy => by
    rw [BitVec.ofInt_natCast, BitVec.toNat_ofNat]; exact Nat.mod_eq_of_lt (by omega)
  show IntKind.u32.wrap ((BitVec.ofInt 32 ((up * 65536 : Nat) : Int) ||| BitVec.ofInt 32 (x : Int)).toNat : Int) = _
  rw [BitVec.toNat_or, h32 _ (by omega), h32 _ (by omega), h1]
  show ((up * 65536 + x : Nat) : Int) % 4294967296 = _
  omega

set_option maxRecDepth 100000 in
set_option maxHeartbeats 2000000 in
theorem shiftDown_any (base g n c s : Nat) (L : List Nat) (w : World) (hn : Hid (L.length = n)) (hL : Limbs L) (hnl : n ≤ 10000) (hs : s ≤ 15) (hown : w.ownsRow base 22 1 (.slice (some ⟨g, 0, none⟩) n c) n (vals L)) (hg : g < w.heap.size) :
    Calls Try.prog 81 #[.slice (some ⟨g, 0, none⟩) n c, .int .i64 s] w fun e w' => ∃ (Q : List Nat) (up : Nat), e = .returned (.slice (some ⟨g, 0, none⟩) (cutLen Q Q.length) c) ∧ Dn L s 0 Q up ∧ w'.ownsRow base 22 1 (.slice (some ⟨g, 0, none⟩) n c) n (vals Q) ∧ w.grownBy w' (some g) := by
  have hmx : Try.prog.follows .mixedOrders = true := by kernel_rfl
  refine (callsIn_wide (n := 9)).1 ?_
  refine callsIn_of_wp_marks Try.func81 rfl trivial ?_ rfl
  simp only [Try.ntmps81, List.size_toArray, List.length_cons, List.length_nil, Nat.reduceAdd, Nat.reduceSub, Array.replicate_succ, Array.replicate_zero, List.push_toArray, List.append_toArray, List.nil_append, List.cons_append]
  gi_wp2_with (refine ⟨trivial, ?_⟩; gi_at_call 77; refine (callsIn_wide.2 (downward_any _ _ _ _)).mono ?_; rintro e w' ⟨rfl, rfl⟩)
  refine wpIn_down (by omega) (w.heap.size + 3) g 0 n c (some ⟨g, 0, none⟩) rfl (by omega) (fun _ => rfl) (nth L)
    (fun k W => ∃ (Q : List Nat) (up ab : Nat), Hid (Dn L s k Q up) ∧ Hid (ab < 4294967296 ∧ ab % 65536 = up) ∧ W.ownsRow base 22 1 (.slice (some ⟨g, 0, none⟩) n c) n (vals (L.take k ++ Q)) ∧ Blk W w.heap.size 24 #[.slice (some ⟨g, 0, none⟩) n c] ∧ Blk W (w.heap.size + 1) 3 #[.int .i64 s] ∧ Blk W (w.heap.size + 2) 90 #[.int .u32 ab] ∧ Blk W (w.heap.size + 3) 24 #[.slice (some ⟨g, 0, none⟩) n c] ∧ w.grownBy W (some g))
    (fun _ _ => False) ?hI (fun _ _ _ _ h _ _ => h) ?hIs ?hIc ?h0 ?a1 ?assign ?body ?done ?stop
  case hI =>
    rintro k W W' row ⟨Q, up, ab, h1, h1b, h2, h3, h4, h5, h6, h7⟩ hg' hr
    exact ⟨Q, up, ab, h1, h1b, own_own h2 hg' hr, h3.own hg' hr, h4.own hg' hr, h5.own hg' hr, h6.own hg' hr, only_own h7 (by simp; omega) hg' hr⟩
  case hIs =>
    rintro k W ⟨Q, up, ab, h1, h1b, h2, h3, h4, h5, h6, h7⟩
    exact (h6.cell 0).trans rfl
  case hIc =>
    rintro k W hk ⟨Q, up, ab, h1, h1b, h2, h3, h4, h5, h6, h7⟩
    rw [Nat.zero_add, h2.cellAt k (by omega)]
    have hkL : k < L.length := by rw [hn.out]; exact hk
    unfold vals nth
    simp [List.getD_eq_getElem?_getD, List.getElem?_append, List.getElem?_take, hkL]
    intro h
    omega
  case h0 =>
    refine ⟨[], 0, 0, ⟨by simp [hn.out], limbs_nil, by omega, ?_, ?_⟩, ⟨by omega, rfl⟩, ?_, ?_, ?_, ?_, ?_, ?_⟩
    · rw [← hn.out, List.drop_length]; simp [val]
    · rw [← hn.out, List.drop_length]; simp [val]
    · rw [← hn.out, List.take_length, List.append_nil, hn.out]
      exact (((hown.alloc _).alloc _).alloc _).alloc _
    · exact (((Blk.new w 24 _).alloc _).alloc _).alloc _
    · have := ((Blk.new (w.alloc (.cells #[.slice (some ⟨g, 0, none⟩) n c] 24)) 3 #[.int .i64 s]).alloc (.cells #[.int .u32 0] 90)).alloc (.cells #[.slice (some ⟨g, 0, none⟩) n c] 24)
      rwa [World.size_alloc] at this
    · have := (Blk.new ((w.alloc (.cells #[.slice (some ⟨g, 0, none⟩) n c] 24)).alloc (.cells #[.int .i64 s] 3)) 90 #[.int .u32 0]).alloc (.cells #[.slice (some ⟨g, 0, none⟩) n c] 24)
      rwa [World.size_alloc, World.size_alloc] at this
    · have := Blk.new (((w.alloc (.cells #[.slice (some ⟨g, 0, none⟩) n c] 24)).alloc (.cells #[.int .i64 s] 3)).alloc (.cells #[.int .u32 0] 90)) 24 #[.slice (some ⟨g, 0, none⟩) n c]
      rwa [World.size_alloc, World.size_alloc, World.size_alloc] at this
    · exact only_alloc (only_alloc (only_alloc (only_alloc (only_refl w g) _) _) _) _
  case assign =>
    intro l k W K hK
    gi_wp2
    exact hK
  case body =>
    rintro l k W hk ⟨Q, up, ab, H, HB, hown1, b0, b1, b2, b3, hon⟩
    have hx := nth_lt hL k
    have HS : Hid (Dn L s k ((up * 65536 + nth L k) / 2 ^ s % 65536 :: Q) (nth L k)) := H.out.step hL hs
    have hup := H.out.low
    have hab := HB.out.1
    have c0 := (b0.cell 0).trans (b := some (Value.slice (some ⟨g, 0, none⟩) n c)) rfl
    have c1 := (b1.cell 0).trans (b := some (Value.int .i64 s)) rfl
    have c2 := (b2.cell 0).trans (b := some (Value.int .u32 ab)) rfl
    have f2 := b2.frozen 0
    have l2 := b2.lt
    have xk : ∃ v, W.cell? ⟨g, k, none⟩ = some v := by
      rw [hown1.cellAt k (by omega)]
      exact ⟨_, List.getElem?_eq_getElem (by have := hown1.1; omega)⟩
    obtain ⟨v0, xk⟩ := xk
    have fk := hown1.frozenAt k
    have n1 : g ≠ w.heap.size + 1 + 1 := by omega
    have n2 : w.heap.size + 1 + 1 ≠ g := by omega
    have hki : (0 : Int) ≤ (k : Int) ∧ (k : Int) < (n : Int) := by omega
    have hgl : g < W.heap.size := by omega
    have hor := wide_or hab HB.out.2 hx
    obtain ⟨wd, hwd⟩ : ∃ wd, up * 65536 + nth L k = wd := ⟨_, rfl⟩
    rw [hwd] at hor HS
    have hwlt : wd < 4294967296 := by omega
    have HWD : Hid (wd % 65536 = nth L k) := by show _ = _; omega
    clear hwd
    have hwq : IntKind.u16.wrap ((wd : Int) / 2 ^ s) = ((wd / 2 ^ s % 65536 : Nat) : Int) := by rw [wrap_u16]; simp
    have HWQ : Hid (IntKind.u16.wrap ((wd : Int) / 2 ^ s) = ((wd / 2 ^ s % 65536 : Nat) : Int)) := hwq
    have fin : ∀ (BB : Nat) a, downPost BB (fun k W => ∃ (Q : List Nat) (up ab : Nat), Hid (Dn L s k Q up) ∧ Hid (ab < 4294967296 ∧ ab % 65536 = up) ∧ W.ownsRow base 22 1 (.slice (some ⟨g, 0, none⟩) n c) n (vals (L.take k ++ Q)) ∧ Blk W w.heap.size 24 #[.slice (some ⟨g, 0, none⟩) n c] ∧ Blk W (w.heap.size + 1) 3 #[.int .i64 s] ∧ Blk W (w.heap.size + 2) 90 #[.int .u32 ab] ∧ Blk W (w.heap.size + 3) 24 #[.slice (some ⟨g, 0, none⟩) n c] ∧ w.grownBy W (some g)) (fun _ _ => False) k W Exit.normal a
        ((W.setCell ⟨g, k, none⟩ (.int .u16 (IntKind.u16.wrap ((wd : Int) / 2 ^ s)))).setCell ⟨w.heap.size + 1 + 1, 0, none⟩ (.int .u32 wd)).drew := by
      intro BB a
      refine ⟨(((KeepsOthers.setCell _ _ _).trans (KeepsOthers.setCell _ _ _)).trans (KeepsOthers.drew _)).from _, wd / 2 ^ s % 65536 :: Q, nth L k, wd, HS, ⟨hwlt, HWD.out⟩, ?_, ?_, ?_, ?_, ?_, ?_⟩
      · rw [HWQ.out]
        have o2 := (hown1.stored k (.int .u16 ((wd / 2 ^ s % 65536 : Nat) : Int))).1
        have b2' := b2.far (p := ⟨g, k, none⟩) (by show w.heap.size + 2 ≠ g; omega) (.int .u16 ((wd / 2 ^ s % 65536 : Nat) : Int))
        have o3 := ownsRow_setCell_other o2 (a := ⟨w.heap.size + 1 + 1, 0, none⟩) (own_blk_ne o2 b2' (by decide)) (.int .u32 (wd : Int))
        have ev : (vals (L.take (k + 1) ++ Q)).set k (.int .u16 ((wd / 2 ^ s % 65536 : Nat) : Int)) = vals (L.take k ++ (wd / 2 ^ s % 65536 :: Q)) := by
          have hkL : k < L.length := by rw [hn.out]; exact hk
          rw [take_snoc_getD L hkL]
          unfold vals
          simp only [List.map_append, List.map_cons, List.map_nil, List.append_assoc, List.cons_append, List.nil_append]
          have hlt : (List.map (fun x : Nat => Value.int .u16 (x : Int)) (L.take k)).length = k := by simp; omega
          rw [List.set_append_right _ _ (by omega), hlt, Nat.sub_self]
          rfl
        rw [← ev]
        exact o3
      · exact (b0.far (p := ⟨g, k, none⟩) (by show w.heap.size ≠ g; omega) _).far (p := ⟨w.heap.size + 1 + 1, 0, none⟩) (by show w.heap.size ≠ w.heap.size + 1 + 1; omega) _
      · exact (b1.far (p := ⟨g, k, none⟩) (by show w.heap.size + 1 ≠ g; omega) _).far (p := ⟨w.heap.size + 1 + 1, 0, none⟩) (by simp) _
      · have := (b2.far (p := ⟨g, k, none⟩) (by show w.heap.size + 2 ≠ g; omega) (.int .u16 (IntKind.u16.wrap ((wd : Int) / 2 ^ s)))).set_ 0 (.int .u32 wd)
        exact this
      · exact (b3.far (p := ⟨g, k, none⟩) (by show w.heap.size + 3 ≠ g; omega) _).far (p := ⟨w.heap.size + 1 + 1, 0, none⟩) (by simp) _
      · exact only_drew (only_setCell (only_setCell hon (p := ⟨g, k, none⟩) (.inl rfl) _) (p := ⟨w.heap.size + 1 + 1, 0, none⟩) (.inr (by simp; omega)) _)
    have FIN := @fin
    clear fin
    clear hwq
    gi_wp2
    clear hor H hx hL hnl hown1 b0 b1 b2 b3 hon
    gi_region_o
    all_goals
      gi_wp2
      exact FIN _ _
  case done =>
    rintro D W hD ⟨Q, up, ab, H, HB, hown1, b0, b1, b2, b3, hon⟩ hK
    have c0 := (b0.cell 0).trans (b := some (Value.slice (some ⟨g, 0, none⟩) n c)) rfl
    have HK : Hid (W.heap[D]? = some (Obj.deferred (some []))) := hK
    have hD2 : w.heap.size ≤ D := by simp at hD; omega
    clear hK
    have hQn : Q.length = n := by have := H.out.len; have := hn.out; omega
    have hown2 : W.ownsRow base 22 1 (.slice (some ⟨g, 0, none⟩) n c) n (vals Q) := by simpa using hown1
    subst hQn
    have HT := trim_any Q (some ⟨g, 0, none⟩) c W (own_cap hown2).1 (by omega) H.out.limbs (at_own hown2)
    gi_wp2_with (refine ⟨trivial, ?_⟩; gi_at_call 73; refine (callsIn_wide.2 HT).mono ?_; rintro e w' ⟨rfl, rfl⟩)
    refine ⟨by simp, .inl ⟨_, _, rfl, run_takeDeferred HK.out, ?_⟩⟩
    refine ⟨_, results_tmp rfl _ _ _, Q, up, rfl, H.out, ?_, only_put hon hD2 _⟩
    exact own_own hown2 (B := 0) (grownBy_putObj' _ D (.deferred none)) (fun r e => by cases e; exact ⟨Nat.zero_le _, _, HK.out, rfl⟩)
  case stop =>
    intro D W _ h _
    exact h.elim
end Go.Proofs.Ytgnidjhfiagfnaa
