/- The collector of digits: what its two functions do to the limbs and the carry. Conditions: no digit with its carry leaves an int. -/
import Derived.Test.YtgnidjhfiagfnaaWd
import Derived.Laws.EntriesVeiled
namespace Go.Proofs.Ytgnidjhfiagfnaa
open Go.RowKit

theorem info22 : (Try.prog.info? 22).map (fun i => (i.zero, i.size, i.bytes)) = some (some (.int .u16 0), 1, 2) := by kernel_rfl

/-- Limbs as values. -/
def vals (l : List Nat) : List Value := l.map fun x : Nat => Value.int .u16 (x : Int)

/-- The collector's memory: the carry c, the limbs L that were put. -/
structure Col (W : World) (base P C S : Nat) (c : Int) (L : List Nat) : Prop where
  carry : Blk W C 3 #[.int .i64 c]
  rows : ∃ A cap, Blk W S 24 #[.slice A L.length cap] ∧ W.ownsRow base 22 1 (.slice A L.length cap) L.length (vals L)
  putf : Blk W P 84 #[.func (.func 94) #[] #[.pointer (some ⟨C, 0, none⟩), .pointer (some ⟨S, 0, none⟩)]]
  le : base ≤ C ∧ base ≤ S ∧ base ≤ P

theorem Blk.ne_ {w : World} {g g' : Nat} {t t' : TypeId} {cs cs' : Array Value} (h : Blk w g t cs) (h' : Blk w g' t' cs') (hne : t ≠ t') : g ≠ g' := by
  rintro rfl
  unfold Blk at h h'
  rw [h] at h'
  injection h' with h'
  injection h' with _ ht
  exact hne ht
theorem own_blk_ne {w : World} {g : Nat} {t : TypeId} {cs : Array Value} {base : Nat} {e : TypeId} {size n : Nat} {v : Value} {xs : List Value} (h : w.ownsRow base e size v n xs) (hg : Blk w g t cs) (hne : e ≠ t) : v.ownBlock ≠ some g := by
  rcases h.2 with ⟨rfl, _⟩ | ⟨g', cap, cur, rfl, _, hh, _⟩
  · simp [Value.ownBlock]
  · intro he
    have : g' = g := by simpa [Value.ownBlock] using he
    subst this
    exact Blk.ne_ (t := e) hh hg hne rfl

theorem wrap_u16 (n : Int) : IntKind.u16.wrap n = n % 65536 := by
  rw [IntKind.wrap_u16]
theorem vals_snoc (L : List Nat) (n : Int) : vals (L ++ [(n % 65536).toNat]) = vals L ++ [.int .u16 (IntKind.u16.wrap n)] := by
  rw [wrap_u16]
  unfold vals
  rw [List.map_append, List.map_cons, List.map_nil, Int.toNat_of_nonneg (Int.emod_nonneg _ (by omega))]

set_option maxRecDepth 100000 in
set_option maxHeartbeats 400000 in
theorem put_any (base P C S : Nat) (c d : Int) (L : List Nat) (w : World) (h : Col w base P C S c L) (hl : L.length ≤ 70368744177600) (h1 : -4611686018427387904 ≤ c + d) (h2 : c + d ≤ 4611686018427387904) :
    Calls Try.prog 94 #[.int .i64 d, .pointer (some ⟨C, 0, none⟩), .pointer (some ⟨S, 0, none⟩)] w fun e w' => e = .returned (.tuple #[]) ∧ Col w' base P C S ((c + d) / 65536) (L ++ [((c + d) % 65536).toNat]) ∧ Below base w w' := by
  obtain ⟨hc, ⟨A, cap, hs, hown⟩, hp, hle⟩ := h
  have c1 : w.cell? ⟨C, 0, none⟩ = some (.int .i64 c) := (hc.cell 0).trans rfl
  have f1 := hc.frozen 0
  have c2 : w.cell? ⟨S, 0, none⟩ = some (.slice A L.length cap) := (hs.cell 0).trans rfl
  have f2 := hs.frozen 0
  have lc := hc.lt
  have n1 : C ≠ S := hc.ne_ hs (by decide)
  have n2 : S ≠ C := fun e => n1 e.symm
  have ls := hs.lt
  have o1 := own_blk_ne hown hc (by decide)
  have o2 := own_blk_ne hown hs (by decide)
  have o3 := own_blk_ne hown hp (by decide)
  have hown1 : (w.setCell ⟨C, 0, none⟩ (.int .i64 (c + d))).ownsRow base 22 1 (.slice A L.length cap) L.length (vals L) := ownsRow_setCell_other hown (a := ⟨C, 0, none⟩) o1 _
  have k1 := (hc.set_ 0 (.int .i64 (c + d))).alloc (.cells #[.int .u16 (IntKind.u16.wrap (c + d))] 22)
  have k2 := (hs.far (p := ⟨C, 0, none⟩) n2 (.int .i64 (c + d))).alloc (.cells #[.int .u16 (IntKind.u16.wrap (c + d))] 22)
  have k3 := (hp.far (p := ⟨C, 0, none⟩) (hp.ne_ hc (by decide)) (.int .i64 (c + d))).alloc (.cells #[.int .u16 (IntKind.u16.wrap (c + d))] 22)
  have b1 : Below base w ((w.setCell ⟨C, 0, none⟩ (.int .i64 (c + d))).alloc (.cells #[.int .u16 (IntKind.u16.wrap (c + d))] 22)) := ((Below.refl base w).setCell (p := ⟨C, 0, none⟩) hle.1 _).alloc (by simp [World.setCell]; omega) _
  obtain ⟨i0, hi, hz0, hz1, hz2⟩ := info_parts info22
  go_enter Try.func94, Try.ntmps94
  go_wp2_with (at_builtin; refine wpList_append_own _ rfl _ _ 24 rfl base 22 i0 (.int .u16 0) 1 2 Try.underlying24 hi hz0 hz1 hz2 rfl (by decide) _ _ _ rfl (hown1.alloc _) ⟨w.heap.size, 0, none⟩ 1 1 [.int .u16 (IntKind.u16.wrap (c + d))] rfl rfl ?c1 ?c2 ?c3 ?c4 ?c5 ?_)
  case c1 => have := cell_one_new (w.setCell ⟨C, 0, none⟩ (.int .i64 (c + d))) (.int .u16 (IntKind.u16.wrap (c + d))) 22; simpa using this
  case c2 => intro u hu; simp at hu; subst hu; rfl
  case c3 => unfold maxLen; omega
  case c4 => omega
  case c5 => simp [World.setCell]; omega
  intro v' w1 hown' hgrow _
  obtain ⟨g', cap', rfl⟩ := ownsRow_succ hown'
  have m1 := k1.grown hgrow (fun e => o1 e.symm)
  have m2 := k2.grown hgrow (fun e => o2 e.symm)
  have m3 := k3.grown hgrow (fun e => o3 e.symm)
  have d1 : w1.cell? ⟨C, 0, none⟩ = some (.int .i64 (c + d)) := (m1.cell 0).trans rfl
  have d2 : w1.cell? ⟨S, 0, none⟩ = some (.slice A L.length cap) := (m2.cell 0).trans rfl
  have e1 := m1.frozen 0
  have e2 := m2.frozen 0
  have l1 := m1.lt
  have l2 := m2.lt
  have hlow : ∀ k, (Value.slice A L.length cap).ownBlock = some k → base ≤ k := fun k hk => (hown.lt k hk).1
  have HL : Hid (∀ k, (Value.slice A L.length cap).ownBlock = some k → base ≤ k) := hlow
  clear hlow
  clear hown1 k1 k2 k3 hown
  go_wp2
  go_end0
  have r1 := (m1.far (p := ⟨S, 0, none⟩) n1 (.slice (some ⟨g', 0, none⟩) (L.length + 1) cap')).set_ 0 (.int .i64 ((c + d) / 65536))
  have r2 := (m2.set_ 0 (.slice (some ⟨g', 0, none⟩) (L.length + 1) cap')).far (p := ⟨C, 0, none⟩) n2 (.int .i64 ((c + d) / 65536))
  have r3 := (m3.far (p := ⟨S, 0, none⟩) (hp.ne_ hs (by decide)) (.slice (some ⟨g', 0, none⟩) (L.length + 1) cap')).far (p := ⟨C, 0, none⟩) (hp.ne_ hc (by decide)) (.int .i64 ((c + d) / 65536))
  have q1 := ownsRow_setCell_other (ownsRow_setCell_other hown' (a := ⟨S, 0, none⟩) (own_blk_ne hown' m2 (by decide)) (.slice (some ⟨g', 0, none⟩) (L.length + 1) cap')) (a := ⟨C, 0, none⟩) (own_blk_ne hown' m1 (by decide)) (.int .i64 ((c + d) / 65536))
  refine ⟨rfl, ⟨r1, ⟨some ⟨g', 0, none⟩, cap', ?_, ?_⟩, r3, hle⟩, ?_⟩
  · rw [List.length_append]; exact r2
  · rw [List.length_append, vals_snoc]; exact q1
  · have hb := b1.grown hgrow (by simp [World.setCell]; omega) (fun k hk => HL.out k hk)
    exact (hb.setCell (p := ⟨S, 0, none⟩) hle.2.1 _).setCell (p := ⟨C, 0, none⟩) hle.1 _

set_option maxRecDepth 100000 in
set_option maxHeartbeats 400000 in
theorem collector_any (room : Nat) (w : World) (hr : room ≤ 1099511627776) :
    Calls Try.prog 84 #[.int .i64 room] w fun e w' => ∃ P C S, e = .returned (.tuple #[.func (.func 94) #[] #[.pointer (some ⟨C, 0, none⟩), .pointer (some ⟨S, 0, none⟩)], .func (.func 95) #[] #[.pointer (some ⟨C, 0, none⟩), .pointer (some ⟨P, 0, none⟩), .pointer (some ⟨S, 0, none⟩)]]) ∧
      Col w' w.heap.size P C S 0 [] ∧ Below w.heap.size w w' := by
  obtain ⟨i0, hi, hz0, hz1, hz2⟩ := info_parts info22
  go_enter Try.func84, Try.ntmps84
  go_wp2_with (at_make; refine wpList_make_own _ rfl _ _ 24 rfl w.heap.size 22 i0 (.int .u16 0) 1 Try.underlying24 hi hz0 hz1 .i64 .i64 _ room rfl rfl rfl (by rw [hz2]; omega) (by unfold maxLen; omega) (by simp) ?_; intro w0 hown0 hgrow0; rw [World.size_alloc] at hown0; have p0 := (Blk.new w 84 #[Value.nilFunc]).grown hgrow0 (by simp); have p1 := (p0.cell 0).trans (b := some Value.nilFunc) rfl; have p2 := p0.frozen 0; have p3 := p0.lt)
  have q0 := (p0.set_ 0 (.func (.func 94) #[] #[.pointer (some ⟨w0.heap.size + 1, 0, none⟩), .pointer (some ⟨w0.heap.size, 0, none⟩)])).set_ 0 (.func (.func 94) #[] #[.pointer (some ⟨w0.heap.size + 1, 0, none⟩), .pointer (some ⟨w0.heap.size, 0, none⟩)])
  have ob : ∀ X : Value, (Value.slice (some ⟨w.heap.size + 1, 0, none⟩) 0 room).ownBlock ≠ some w.heap.size := fun _ => by simp [Value.ownBlock]
  have o1 := ownsRow_setCell_other (ownsRow_setCell_other hown0 (a := ⟨w.heap.size, 0, none⟩) (by simp [Value.ownBlock]) (.func (.func 94) #[] #[.pointer (some ⟨w0.heap.size + 1, 0, none⟩), .pointer (some ⟨w0.heap.size, 0, none⟩)])) (a := ⟨w.heap.size, 0, none⟩) (by simp [Value.ownBlock]) (.func (.func 94) #[] #[.pointer (some ⟨w0.heap.size + 1, 0, none⟩), .pointer (some ⟨w0.heap.size, 0, none⟩)])
  have bb : Below w.heap.size w ((w0.setCell ⟨w.heap.size, 0, none⟩ (.func (.func 94) #[] #[.pointer (some ⟨w0.heap.size + 1, 0, none⟩), .pointer (some ⟨w0.heap.size, 0, none⟩)])).setCell ⟨w.heap.size, 0, none⟩ (.func (.func 94) #[] #[.pointer (some ⟨w0.heap.size + 1, 0, none⟩), .pointer (some ⟨w0.heap.size, 0, none⟩)])) :=
    ((((Below.refl w.heap.size w).alloc (Nat.le_refl _) _).grown hgrow0 (by simp) (by simp)).setCell (p := ⟨w.heap.size, 0, none⟩) (Nat.le_refl _) _).setCell (p := ⟨w.heap.size, 0, none⟩) (Nat.le_refl _) _
  obtain ⟨wA, hA⟩ : ∃ wA, ((w0.setCell ⟨w.heap.size, 0, none⟩ (.func (.func 94) #[] #[.pointer (some ⟨w0.heap.size + 1, 0, none⟩), .pointer (some ⟨w0.heap.size, 0, none⟩)])).setCell ⟨w.heap.size, 0, none⟩ (.func (.func 94) #[] #[.pointer (some ⟨w0.heap.size + 1, 0, none⟩), .pointer (some ⟨w0.heap.size, 0, none⟩)])) = wA := ⟨_, rfl⟩
  have hsz : wA.heap.size = w0.heap.size := by rw [← hA]; simp [World.setCell]
  rw [hA] at q0 o1 bb ⊢
  have q1 : Blk ((wA.alloc (.cells #[.slice (some ⟨w.heap.size + 1, 0, none⟩) 0 room] 24)).alloc (.cells #[.int .i64 0] 3)) (w0.heap.size + 1) 3 #[.int .i64 0] := by
    have := Blk.new (wA.alloc (.cells #[.slice (some ⟨w.heap.size + 1, 0, none⟩) 0 room] 24)) 3 #[.int .i64 0]
    rwa [World.size_alloc, hsz] at this
  have q2 : Blk ((wA.alloc (.cells #[.slice (some ⟨w.heap.size + 1, 0, none⟩) 0 room] 24)).alloc (.cells #[.int .i64 0] 3)) w0.heap.size 24 #[.slice (some ⟨w.heap.size + 1, 0, none⟩) 0 room] := by
    have := (Blk.new wA 24 #[.slice (some ⟨w.heap.size + 1, 0, none⟩) 0 room]).alloc (.cells #[.int .i64 0] 3)
    rwa [hsz] at this
  have q3 := (q0.alloc (.cells #[.slice (some ⟨w.heap.size + 1, 0, none⟩) 0 room] 24)).alloc (.cells #[.int .i64 0] 3)
  have q4 := (o1.alloc (.cells #[.slice (some ⟨w.heap.size + 1, 0, none⟩) 0 room] 24)).alloc (.cells #[.int .i64 0] 3)
  have c0 := (q3.cell 0)
  refine bodyPost_ret (v := .tuple #[.func (.func 94) #[] #[.pointer (some ⟨w0.heap.size + 1, 0, none⟩), .pointer (some ⟨w0.heap.size, 0, none⟩)], .func (.func 95) #[] #[.pointer (some ⟨w0.heap.size + 1, 0, none⟩), .pointer (some ⟨w.heap.size, 0, none⟩), .pointer (some ⟨w0.heap.size, 0, none⟩)]]) (by simp [results, Try.f84, go_sem, c0]) rfl ⟨w.heap.size, w0.heap.size + 1, w0.heap.size, rfl, ⟨q1, ⟨_, _, q2, q4⟩, q3, ?_⟩, ?_⟩
  · omega
  · have := bb.size
    exact (bb.alloc this _).alloc (by simp; omega) _

theorem collector_int (r : Int) (w : World) (h0 : 0 ≤ r) (hr : r ≤ 1099511627776) :
    Calls Try.prog 84 #[.int .i64 r] w fun e w' => ∃ P C S, e = .returned (.tuple #[.func (.func 94) #[] #[.pointer (some ⟨C, 0, none⟩), .pointer (some ⟨S, 0, none⟩)], .func (.func 95) #[] #[.pointer (some ⟨C, 0, none⟩), .pointer (some ⟨P, 0, none⟩), .pointer (some ⟨S, 0, none⟩)]]) ∧
      Col w' w.heap.size P C S 0 [] ∧ Below w.heap.size w w' := by
  obtain ⟨n, rfl⟩ := Int.eq_ofNat_of_zero_le h0
  exact collector_any n w (by omega)

theorem put_zero (base P C S c : Nat) (L : List Nat) (w : World) (h : Col w base P C S c L) (hl : L.length ≤ 70368744177600) (h2 : c ≤ 4611686018427387904) :
    Calls Try.prog 94 #[.int .i64 0, .pointer (some ⟨C, 0, none⟩), .pointer (some ⟨S, 0, none⟩)] w fun e w' => e = .returned (.tuple #[]) ∧ Col w' base P C S ((c / 65536 : Nat) : Int) (L ++ [c % 65536]) ∧ Below base w w' := by
  refine (put_any base P C S c 0 L w h hl (by omega) (by omega)).mono ?_
  rintro e w' ⟨h1, h2, h3⟩
  refine ⟨h1, ?_, h3⟩
  have e1 : ((c : Int) + 0) / 65536 = ((c / 65536 : Nat) : Int) := by omega
  have e2 : (((c : Int) + 0) % 65536).toNat = c % 65536 := by omega
  rwa [e1, e2] at h2

def carryOf (C : Nat) (W : World) : Nat := match W.cell? ⟨C, 0, none⟩ with
  | some (.int _ n) => n.toNat
  | _ => 0
theorem carryOf_col {W : World} {base P C S c : Nat} {L : List Nat} (h : Col W base P C S c L) : carryOf C W = c := by
  unfold carryOf
  rw [h.carry.cell 0]
  rfl

/-- A slice value that reads as limbs. -/
def Sl (w : World) (v : Value) (l : List Nat) : Prop :=
  Limbs l ∧ l.length ≤ 70368744177664 ∧ ∃ A c, v = .slice A l.length c ∧ l.length ≤ c ∧ c ≤ maxLen ∧ At w A l

theorem at_take {w : World} {A : Option Addr} {l : List Nat} (h : At w A l) (k : Nat) : At w A (l.take k) := by
  intro hne
  have hl : l ≠ [] := by intro e; subst e; simp at hne
  obtain ⟨b, off, h1, h2, h3⟩ := h hl
  refine ⟨b, off, h1, h2, fun j hj => ?_⟩
  rw [List.length_take] at hj
  rw [h3 j (by omega), nth_take l (by omega)]

theorem at_own {w : World} {base : Nat} {A : Option Addr} {cap : Nat} {L : List Nat} (h : w.ownsRow base 22 1 (.slice A L.length cap) L.length (vals L)) : At w A L := by
  intro hne
  rcases h.2 with ⟨h1, h2⟩ | ⟨g, cap', cur, h1, h2, h3, _⟩
  · exact absurd (List.eq_nil_of_length_eq_zero h2) hne
  · have hA : A = some ⟨g, 0, none⟩ ∧ cap = cap' := by
      injection h1 with a b c
      exact ⟨a, c⟩
    obtain ⟨rfl, rfl⟩ := hA
    refine ⟨g, 0, rfl, (Array.getElem?_eq_some_iff.1 h3).1, fun j hj => ?_⟩
    have := h.cellAt j (by omega)
    rw [Nat.zero_add, this]
    unfold vals nth
    simp [List.getD_eq_getElem?_getD, hj]

theorem own_cap {w : World} {base e size n cap : Nat} {A : Option Addr} {xs : List Value} (h : w.ownsRow base e size (.slice A n cap) n xs) : n ≤ cap ∧ cap ≤ maxLen := by
  rcases h.2 with ⟨h1, h2⟩ | ⟨g, cap', cur, h1, h2, h3, h4, h5, _⟩
  · injection h1 with a b c
    subst b c
    exact ⟨Nat.le_refl _, by unfold maxLen; omega⟩
  · injection h1 with a b c
    subst c
    exact ⟨h4, h5⟩

theorem val_put (L : List Nat) (c : Nat) : val (L ++ [c % 65536]) + 65536 ^ (L ++ [c % 65536]).length * (c / 65536) = val L + 65536 ^ L.length * c := by
  rw [val_snoc, List.length_append, List.length_cons, List.length_nil, Nat.pow_succ, Nat.mul_assoc, Nat.add_assoc, ← Nat.mul_add]
  congr 2
  omega

theorem limbs_put {L : List Nat} (h : Limbs L) (c : Nat) : Limbs (L ++ [c % 65536]) :=
  limbs_append.2 ⟨h, by intro x hx; simp at hx; omega⟩

set_option maxRecDepth 100000 in
set_option maxHeartbeats 400000 in
theorem finish_any (base P C S : Nat) (c : Nat) (L : List Nat) (w : World) (h : Col w base P C S c L) (hL : Limbs L) (hl : L.length ≤ 1099511627776) (hc : c ≤ 4611686018427387904) :
    Calls Try.prog 95 #[.pointer (some ⟨C, 0, none⟩), .pointer (some ⟨P, 0, none⟩), .pointer (some ⟨S, 0, none⟩)] w fun e w' => ∃ v, e = .returned v ∧ Sl w' v (digs (val L + 65536 ^ L.length * c)) ∧ Below base w w' := by
  obtain ⟨N, hN⟩ : ∃ N, val L + 65536 ^ L.length * c = N := ⟨_, rfl⟩
  rw [hN]
  have HN : Hid (val L + 65536 ^ L.length * c = N) := hN
  clear hN
  go_enter Try.func95, Try.ntmps95
  go_wp2
  go_loopw [4] (fun _ wr => ∃ (c' j : Nat) (L' : List Nat), j ≤ 4 ∧ Hid (Limbs L' ∧ L'.length = L.length + j ∧ c' * 65536 ^ j ≤ c ∧ val L' + 65536 ^ L'.length * c' = N) ∧ Col wr base P C S c' L' ∧ Below base w wr) (fun _ wr => carryOf C wr)
  case atStart => exact ⟨c, 0, L, by omega, ⟨hL, rfl, by simp, HN.out⟩, h, Below.refl _ _⟩
  case round =>
    obtain ⟨c', j, L', hj4, H, hcol, hbel⟩ := hrel
    have hme := carryOf_col hcol
    have HM : Hid (carryOf C wr = c') := hme
    clear hme h
    have c1 : wr.cell? ⟨C, 0, none⟩ = some (.int .i64 c') := (hcol.carry.cell 0).trans rfl
    have c2 : wr.cell? ⟨P, 0, none⟩ = some (.func (.func 94) #[] #[.pointer (some ⟨C, 0, none⟩), .pointer (some ⟨S, 0, none⟩)]) := (hcol.putf.cell 0).trans rfl
    obtain ⟨A, cap, hs, hown⟩ := hcol.rows
    have c3 : wr.cell? ⟨S, 0, none⟩ = some (.slice A L'.length cap) := (hs.cell 0).trans rfl
    have hcp := own_cap hown
    have hlen : L'.length ≤ L.length + j := by have := H.out.2.1; omega
    have hj : c' = 0 ∨ j < 4 := by
      rcases Nat.lt_or_ge j 4 with hj | hj
      · exact .inr hj
      · left
        have h1 := H.out.2.2.1
        have h2 : 65536 ^ 4 ≤ 65536 ^ j := Nat.pow_le_pow_right (by omega) hj
        rcases Nat.eq_zero_or_pos c' with h3 | h3
        · exact h3
        · have h4 : 1 * 65536 ^ 4 ≤ c' * 65536 ^ j := Nat.mul_le_mul h3 h2
          omega
    have hc2 : c' ≤ 4611686018427387904 := by
      have h1 := H.out.2.2.1
      have h2 : 0 < 65536 ^ j := Nat.pow_pos (by omega)
      have h3 : c' * 1 ≤ c' * 65536 ^ j := Nat.mul_le_mul_left _ h2
      omega
    by_cases h0 : c' = 0
    · subst h0
      have hat := at_own hown
      have hv : Hid (val L' = N) := by have := H.out.2.2.2; rwa [Nat.mul_zero, Nat.add_zero] at this
      have h46 : Hid (L'.length ≤ 70368744177664) := by have := hj4; show _ ≤ _; omega
      clear hj
      go_wp2_with (go_at_call 73; refine (trim_any L' A cap wr hcp.1 (by omega) H.out.1 hat).mono ?_; rintro e w' ⟨rfl, rfl⟩)
      go_ret
      have hk := cutLen_digs H.out.1
      refine ⟨_, rfl, ⟨limbs_digs _, ?_, A, cap, ?_, ?_, hcp.2, ?_⟩, hbel⟩
      · have := cutLen_le L' L'.length
        rw [← hv.out, ← hk]; have := h46.out; omega
      · show Value.slice A (cutLen L' L'.length) cap = _
        rw [hk, hv.out]
      · have := cutLen_le L' L'.length
        rw [← hv.out, ← hk]; omega
      · rw [← hv.out, ← cut_all H.out.1]; exact at_take hat _
    · have hj2 : j < 4 := by omega
      clear hj
      go_wp2_with (go_at_call 94; refine (put_zero base P C S c' L' wr hcol (by omega) hc2).mono ?_; rintro e w' ⟨rfl, hcol2, hb2⟩)
      go_roundw
      case rel =>
        refine ⟨c' / 65536, j + 1, L' ++ [c' % 65536], by omega, ⟨limbs_put H.out.1 _, ?_, ?_, ?_⟩, hcol2, hbel.trans hb2⟩
        · rw [List.length_append, H.out.2.1]; simp; omega
        · have h1 := H.out.2.2.1
          have h2 : (c' / 65536) * 65536 ^ (j + 1) ≤ c' * 65536 ^ j := by
            rw [Nat.pow_succ, Nat.mul_comm (65536 ^ j), ← Nat.mul_assoc]
            exact Nat.mul_le_mul_right _ (Nat.div_mul_le_self _ _)
          omega
        · rw [val_put]; exact H.out.2.2.2
      case measure =>
        rw [carryOf_col hcol2, HM.out]; omega
end Go.Proofs.Ytgnidjhfiagfnaa
