/- What SpanLaws' own function returns. -/
import Derived.Test.YtpafnakepgjmnaaSp8
namespace Go.Proofs.Ytpafnakepgjmnaa
open Go.RowKit Go.Lib Go.Shelf

theorem do_union {la lb R : List Sp} {A B : Option Addr} {na ca nb cb g : Nat} {w : World} (hR : combL orB la lb = R) (ha : IsSet la) (hb : IsSet lb) (hna : la.length = na) (hnb : lb.length = nb) (hA : SpH w A la) (hB : SpH w B lb) (hG : Hid (Blk w g 28 #[.int .i64 0])) :
    Calls Try.prog 24 #[.func (.func 16) #[] #[], .slice A na ca, .slice B nb cb, .pointer (some ⟨g, 0, none⟩)] w (RetSp w R) := by
  go_enter Try.func24, Try.ntmps24
  go_wp2_with fail
  refine (union_eq (la := la) (lb := lb) (R := R) hR ha hb hna hnb hA hB).mono ?_
  rintro e u ⟨v, rfl, ho, h⟩
  have BG := hid (hG.out.below h hG.out.lt)
  have c0 := (BG.out.cell 0).trans (b := some (Value.int .i64 0)) rfl
  have f0 := BG.out.frozen 0
  have HO := hid ho
  have HB := hid h
  clear ho h
  go_wp2
  go_ret
  rw [BG.out.set_same]
  exact ⟨v, rfl, HO.out, HB.out⟩

theorem do_meet {la lb R : List Sp} {A B : Option Addr} {na ca nb cb g : Nat} {w : World} (hR : combL andB la lb = R) (ha : IsSet la) (hb : IsSet lb) (hna : la.length = na) (hnb : lb.length = nb) (hA : SpH w A la) (hB : SpH w B lb) (hG : Hid (Blk w g 28 #[.int .i64 0])) :
    Calls Try.prog 24 #[.func (.func 17) #[] #[], .slice A na ca, .slice B nb cb, .pointer (some ⟨g, 0, none⟩)] w (RetSp w R) := by
  go_enter Try.func24, Try.ntmps24
  go_wp2_with fail
  refine (meet_eq (la := la) (lb := lb) (R := R) hR ha hb hna hnb hA hB).mono ?_
  rintro e u ⟨v, rfl, ho, h⟩
  have BG := hid (hG.out.below h hG.out.lt)
  have c0 := (BG.out.cell 0).trans (b := some (Value.int .i64 0)) rfl
  have f0 := BG.out.frozen 0
  have HO := hid ho
  have HB := hid h
  clear ho h
  go_wp2
  go_ret
  rw [BG.out.set_same]
  exact ⟨v, rfl, HO.out, HB.out⟩

theorem do_minus {la lb R : List Sp} {A B : Option Addr} {na ca nb cb g : Nat} {w : World} (hR : combL butB la lb = R) (ha : IsSet la) (hb : IsSet lb) (hna : la.length = na) (hnb : lb.length = nb) (hA : SpH w A la) (hB : SpH w B lb) (hG : Hid (Blk w g 28 #[.int .i64 0])) :
    Calls Try.prog 24 #[.func (.func 18) #[] #[], .slice A na ca, .slice B nb cb, .pointer (some ⟨g, 0, none⟩)] w (RetSp w R) := by
  go_enter Try.func24, Try.ntmps24
  go_wp2_with fail
  refine (minus_eq (la := la) (lb := lb) (R := R) hR ha hb hna hnb hA hB).mono ?_
  rintro e u ⟨v, rfl, ho, h⟩
  have BG := hid (hG.out.below h hG.out.lt)
  have c0 := (BG.out.cell 0).trans (b := some (Value.int .i64 0)) rfl
  have f0 := BG.out.frozen 0
  have HO := hid ho
  have HB := hid h
  clear ho h
  go_wp2
  go_ret
  rw [BG.out.set_same]
  exact ⟨v, rfl, HO.out, HB.out⟩

end Go.Proofs.Ytpafnakepgjmnaa
