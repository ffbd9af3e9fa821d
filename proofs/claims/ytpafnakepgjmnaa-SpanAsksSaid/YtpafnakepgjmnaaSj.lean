/- The spans of a row sorted; ordered. -/
import Derived.Test.YtpafnakepgjmnaaSi
import Derived.Shelf.SlSortCmp.NoneTotal
namespace Go.Proofs.Ytpafnakepgjmnaa
open Go.RowKit Go.Lib Go.Shelf

def SortedFr (l : List Sp) : Prop := ∀ i j, i < j → j < l.length → fr l i ≤ fr l j

theorem vsp_of {l : List Sp} (h : Vd l) : ∃ d : List VSp, d.map (·.1) = l := by
  induction l with
  | nil => exact ⟨[], rfl⟩
  | cons s l ih =>
    obtain ⟨d, hd⟩ := ih (fun r hr => h r (List.mem_cons_of_mem _ hr))
    exact ⟨⟨s, h s (by simp)⟩ :: d, by simp [hd]⟩
theorem fr_map (d : List VSp) (i : Nat) (h : i < d.length) : fr (d.map (·.1)) i = (d[i]!).1.1 ∧ tt (d.map (·.1)) i = (d[i]!).1.2 := by
  unfold fr tt
  rw [List.getD_eq_getElem?_getD, List.getElem?_map, List.getElem?_eq_getElem h, getElem!_pos d i h]
  exact ⟨rfl, rfl⟩

/-- What SortFunc leaves: the same spans, by From. -/
def SortedIn (w : World) (base g : Nat) (l : List Sp) (e : Ending) (w' : World) : Prop :=
  e = .returned (.tuple #[]) ∧ ∃ l', l'.Perm l ∧ SortedFr l' ∧ SpH w' (some ⟨g, 0, none⟩) l' ∧ Below base w w'

theorem sort_any (l : List Sp) (g n c base : Nat) (w : World) (hn : l.length = n) (hm : n ≤ 8796093022208) (hv : Vd l) (ho : OwnSp w base (.slice (some ⟨g, 0, none⟩) n c) l) :
    Calls Try.prog 66 #[.slice (some ⟨g, 0, none⟩) n c, .func (.func 67) #[] #[]] w (SortedIn w base g l) := by
  obtain ⟨hg1, hg2, _⟩ := ho.base_le
  obtain ⟨dl, hdl⟩ := vsp_of hv
  have hdn : dl.length = n := by rw [← hn, ← hdl, List.length_map]
  have eg : ∀ args w, (callFunc 67 args).run Try.prog w = .ok (.enter 67 args) w := enters_of Try.func67 (by kernel_rfl) rfl
  have hH : Sort.HoldsK encV 2 w g 0 dl.toArray := by
    intro j hj
    rw [Sort.size_flatK] at hj
    have hj2 : j / 2 < n := by simp at hj; omega
    rw [Sort.get_flatK _ _ _ _ hj]
    have hc := ho.cellIn hn hj2
    have hf := ho.frozenIn j
    have hm := fr_map dl (j / 2) (by omega)
    rw [hdl] at hm
    rw [hm.1, hm.2] at hc
    rw [Nat.zero_add]
    refine ⟨?_, hf⟩
    have e : dl.toArray[j / 2]! = dl[j / 2]! := by simp
    rw [e]
    rcases Nat.mod_two_eq_zero_or_one j with h | h
    · rw [h]
      have : j = j / 2 * 2 := by omega
      rw [this, show j / 2 * 2 / 2 = j / 2 by omega, hc.1]; rfl
    · rw [h]
      have : j = j / 2 * 2 + 1 := by omega
      rw [this, show (j / 2 * 2 + 1) / 2 = j / 2 by omega, hc.2]; rfl
  have hcon := AnyQ.slices_SortFunc Try.sortf 2 Try.isAgg34 Try.sizeOf34 encV (fun _ => rfl) (fun x v hv => by simp [encV] at hv; rcases hv with rfl | rfl <;> rfl) cfV swo_sp 67 #[] g 0 c dl.toArray w eg (fun _ _ _ _ x y => cmp_any x y _) hH hg2 (by simp; omega)
  have hsz : dl.toArray.size = n := by simp [hdn]
  rw [hsz] at hcon
  refine hcon.mono ?_
  rintro e w' ⟨he, d', q, os, hp, hs, rfl⟩
  have hd' : d'.size = n := by have := hp.1; rw [hsz] at this; exact this
  refine ⟨he, d'.toList.map (·.1), ?_, ?_, ?_, ?_⟩
  · have := hp.2.2
    rw [show d'.extract 0 n = d' by rw [← hd']; simp, show dl.toArray.extract 0 n = dl.toArray by rw [← hsz]; simp] at this
    have := this.map (·.1)
    rwa [hdl] at this
  · intro i j hij hj
    have hj' : j < n := by simpa [hd'] using hj
    have := hs i j (Nat.zero_le _) hij hj'
    rw [(fr_map d'.toList i (by simp; omega)).1, (fr_map d'.toList j (by simp; omega)).1]
    unfold ltOf cfV at this
    have e1 : d'.toList[i]! = d'[i]! := by rw [getElem!_pos d'.toList i (by simp; omega), getElem!_pos d' i (by omega)]; simp
    have e2 : d'.toList[j]! = d'[j]! := by rw [getElem!_pos d'.toList j (by simp; omega), getElem!_pos d' j (by omega)]; simp
    rw [e1, e2]
    have := of_decide_eq_false this
    omega
  · intro _
    have hK : Sort.HoldsK encV 2 (Go.Proofs.sortWorldK encV 2 w g 0 q d' os) g 0 d' := Sort.holdsK_grow encV 2 _ os g 0 d' (by simp [Sort.putRowK, Sort.putRow, Sort.mapBlock, Sort.ahead]; exact hg2) (Sort.holdsK_putRowK encV 2 _ g 0 dl.toArray d' (Sort.holdsK_ahead encV 2 w q g 0 _ hH) (by omega))
    refine ⟨g, 0, rfl, by simp [Go.Proofs.sortWorldK, Sort.grow, Sort.putRowK, Sort.putRow, Sort.mapBlock, Sort.ahead]; omega, fun i hi => ?_⟩
    have hi' : i < d'.size := by simpa using hi
    have h0 := (hK.cell (i := i) (c := 0) hi' (by omega)).1
    have h1 := (hK.cell (i := i) (c := 1) hi' (by omega)).1
    have e1 : d'.toList[i]! = d'[i]! := by rw [getElem!_pos d'.toList i (by simpa using hi'), getElem!_pos d' i hi']; simp
    rw [(fr_map d'.toList i (by simpa using hi')).1, (fr_map d'.toList i (by simpa using hi')).2, e1]
    exact ⟨h0, h1⟩
  · refine ⟨rfl, rfl, rfl, by simp [Go.Proofs.sortWorldK, Sort.grow, Sort.putRowK, Sort.putRow, Sort.mapBlock, Sort.ahead], fun k hk => ?_⟩
    show ((w.heap.modify g _) ++ os)[k]? = _
    rw [Array.getElem?_append_left (by rw [Array.size_modify]; omega), Array.getElem?_modify, if_neg (by omega)]

theorem sort_none (A : Option Addr) (c : Nat) (w : World) :
    Calls Try.prog 66 #[.slice A 0 c, .func (.func 67) #[] #[]] w fun e w' => e = .returned (.tuple #[]) ∧ w' = w :=
  AnyF.slices_SortFunc_none Try.sortf A c _ w
end Go.Proofs.Ytpafnakepgjmnaa
