/-
  NARROWER THAN 'FOR EVERY INPUT', by the rows' own cells (each row's printed sentence says how): CalendarDays: laid · CalendarTells: laid · CalendarMoves: laid · CalendarReads: laid · CalendarSmall: laid · CalendarNext: laid · CalendarYears: laid · CalendarLater: laid · CalendarWhole: laid · CalendarBirthdays: laid · CalendarTexts: laid · CalendarWrong: laid.
  DERIVED. THE GIVEN ROWS OF THIS SEAT. 12 by the template 'for every input the law returns true; each argument reads behind the call as it read before'; 0 by the template 'total and deterministic' (their statements: YtmpkjooglpomoaaDoorTotals.lean).
  GIVEN WITH THE SEED: the statements are not yours to turn. If you find one false, say at which input.
  Laid BY PROGRAM, IN A SANDBOX (cutbox-rows.mjs): the forced cells as the released guide's own fill.sh prints them over the translation 3da2db978854c9b2… (all of the seat's roots in one cut). By AI agents, Wed Nov 11 2026. No macro, syntax, notation, axiom, sorry.
-/
import Derived.Test.YtmpkjooglpomoaaDoorChecked
import GoSem.Claim
import GoSem.ClaimJoined
import GoSem.ClaimMapViews
import Derived.JoinedTies
import Derived.KernelRfl
namespace Go.Proofs.YtmpkjooglpomoaaDoor
/- THE CELL 'sum', in the pinned program and in every row, IS THE sha256 OF THE DUMP (.gsa) THAT YtmpkjooglpomoaaDoorProg.lean LOADS. Nothing in Lean hashes anything: it is a label: what it is worth is what the hold of that sum in a sandbox is worth. -/
noncomputable def Tryd.pinned : Pinned := { name := "ytmpkjooglpomoaadoor", sum := "3da2db978854c9b2a49bb420b87a3792da312e7847f4cd53244c4b5ca15dd9cf", checked := Tryd.checked }
namespace Rows
def none {H : Type} : Left H := { results := [], args := [] }

/- WHAT THE LISTED PACKAGE-LEVEL VARIABLES READ AS WHEN THE CALL BEGINS. Each datum BY PROGRAM (the guide's laid-datum.mjs) off the statement by which the dump's own 'gosem.cut.vars' lays the variable. In a bare row this is a premise. The card (YtmpkjooglpomoaaDoorCards.lean) ties it to the program's text. -/
def laid_annuitant_calendar_lengths {H : Type} : DataW H := .agg [.lit (.int .i64 31), .lit (.int .i64 28), .lit (.int .i64 31), .lit (.int .i64 30), .lit (.int .i64 31), .lit (.int .i64 30), .lit (.int .i64 31), .lit (.int .i64 31), .lit (.int .i64 30), .lit (.int .i64 31), .lit (.int .i64 30), .lit (.int .i64 31)]
def laid_annuitant_calendar_fields {H : Type} : DataW H := .agg [.agg [.lit (.int .i64 0), .lit (.int .i64 4)], .agg [.lit (.int .i64 5), .lit (.int .i64 7)], .agg [.lit (.int .i64 8), .lit (.int .i64 10)]]

/-- 'annuitantlaw03.CalendarDays': WHATEVER THE INPUT: true; the input reads as it did. -/
def calendarDaysSpec : ChangeSpec := { name := "calendarDays", fn := fun _ => fun
  | [d1, d2, d3] => { results := [.lit (.bool true)], args := [d1, d2, d3] }
  | _ => none }
def calendarDaysRow : OpenClaim := { program := "ytmpkjooglpomoaadoor", sum := "3da2db978854c9b2a49bb420b87a3792da312e7847f4cd53244c4b5ca15dd9cf", func := "annuitant/annuitantlaw03.CalendarDays", spec := "calendarDays", unfollowed := true, recurses := true, named := ["annuitant/calendar.lengths", "annuitant/calendar.fields"], apart := false, laid := [("annuitant/calendar.lengths", laid_annuitant_calendar_lengths), ("annuitant/calendar.fields", laid_annuitant_calendar_fields)] }
def CalendarDaysSaid : Prop := calendarDaysRow.holds Tryd.pinned (OpenSpec.ofChange calendarDaysSpec)

/-- ITS FALSE NEIGHBOUR: 'it returns false'. Refute it at one input. -/
def calendarDaysWrong : ChangeSpec := { name := "calendarDays", fn := fun _ => fun
  | [d1, d2, d3] => { results := [.lit (.bool false)], args := [d1, d2, d3] }
  | _ => none }
def CalendarDaysWrongFalsely : Prop := calendarDaysRow.holds Tryd.pinned (OpenSpec.ofChange calendarDaysWrong)

/-- 'annuitantlaw03.CalendarTells': WHATEVER THE INPUT: true; the input reads as it did. -/
def calendarTellsSpec : ChangeSpec := { name := "calendarTells", fn := fun _ => fun
  | [d] => { results := [.lit (.bool true)], args := [d] }
  | _ => none }
def calendarTellsRow : OpenClaim := { program := "ytmpkjooglpomoaadoor", sum := "3da2db978854c9b2a49bb420b87a3792da312e7847f4cd53244c4b5ca15dd9cf", func := "annuitant/annuitantlaw03.CalendarTells", spec := "calendarTells", unfollowed := true, recurses := true, named := ["annuitant/calendar.lengths", "annuitant/calendar.fields"], apart := false, laid := [("annuitant/calendar.lengths", laid_annuitant_calendar_lengths), ("annuitant/calendar.fields", laid_annuitant_calendar_fields)] }
def CalendarTellsSaid : Prop := calendarTellsRow.holds Tryd.pinned (OpenSpec.ofChange calendarTellsSpec)

/-- ITS FALSE NEIGHBOUR: 'it returns false'. Refute it at one input. -/
def calendarTellsWrong : ChangeSpec := { name := "calendarTells", fn := fun _ => fun
  | [d] => { results := [.lit (.bool false)], args := [d] }
  | _ => none }
def CalendarTellsWrongFalsely : Prop := calendarTellsRow.holds Tryd.pinned (OpenSpec.ofChange calendarTellsWrong)

/-- 'annuitantlaw03.CalendarMoves': WHATEVER THE INPUT: true; the input reads as it did. -/
def calendarMovesSpec : ChangeSpec := { name := "calendarMoves", fn := fun _ => fun
  | [d1, d2, d3] => { results := [.lit (.bool true)], args := [d1, d2, d3] }
  | _ => none }
def calendarMovesRow : OpenClaim := { program := "ytmpkjooglpomoaadoor", sum := "3da2db978854c9b2a49bb420b87a3792da312e7847f4cd53244c4b5ca15dd9cf", func := "annuitant/annuitantlaw03.CalendarMoves", spec := "calendarMoves", unfollowed := true, recurses := true, named := ["annuitant/calendar.lengths", "annuitant/calendar.fields"], apart := false, laid := [("annuitant/calendar.lengths", laid_annuitant_calendar_lengths), ("annuitant/calendar.fields", laid_annuitant_calendar_fields)] }
def CalendarMovesSaid : Prop := calendarMovesRow.holds Tryd.pinned (OpenSpec.ofChange calendarMovesSpec)

/-- ITS FALSE NEIGHBOUR: 'it returns false'. Refute it at one input. -/
def calendarMovesWrong : ChangeSpec := { name := "calendarMoves", fn := fun _ => fun
  | [d1, d2, d3] => { results := [.lit (.bool false)], args := [d1, d2, d3] }
  | _ => none }
def CalendarMovesWrongFalsely : Prop := calendarMovesRow.holds Tryd.pinned (OpenSpec.ofChange calendarMovesWrong)

/-- 'annuitantlaw03.CalendarReads': WHATEVER THE INPUT: true; the input reads as it did. -/
def calendarReadsSpec : ChangeSpec := { name := "calendarReads", fn := fun _ => fun
  | [d] => { results := [.lit (.bool true)], args := [d] }
  | _ => none }
def calendarReadsRow : OpenClaim := { program := "ytmpkjooglpomoaadoor", sum := "3da2db978854c9b2a49bb420b87a3792da312e7847f4cd53244c4b5ca15dd9cf", func := "annuitant/annuitantlaw03.CalendarReads", spec := "calendarReads", unfollowed := true, recurses := true, named := ["annuitant/calendar.lengths", "annuitant/calendar.fields"], apart := false, laid := [("annuitant/calendar.lengths", laid_annuitant_calendar_lengths), ("annuitant/calendar.fields", laid_annuitant_calendar_fields)] }
def CalendarReadsSaid : Prop := calendarReadsRow.holds Tryd.pinned (OpenSpec.ofChange calendarReadsSpec)

/-- ITS FALSE NEIGHBOUR: 'it returns false'. Refute it at one input. -/
def calendarReadsWrong : ChangeSpec := { name := "calendarReads", fn := fun _ => fun
  | [d] => { results := [.lit (.bool false)], args := [d] }
  | _ => none }
def CalendarReadsWrongFalsely : Prop := calendarReadsRow.holds Tryd.pinned (OpenSpec.ofChange calendarReadsWrong)

/-- 'annuitantlaw03.CalendarSmall': WHATEVER THE INPUT: true; the input reads as it did. -/
def calendarSmallSpec : ChangeSpec := { name := "calendarSmall", fn := fun _ => fun
  | [] => { results := [.lit (.bool true)], args := [] }
  | _ => none }
def calendarSmallRow : OpenClaim := { program := "ytmpkjooglpomoaadoor", sum := "3da2db978854c9b2a49bb420b87a3792da312e7847f4cd53244c4b5ca15dd9cf", func := "annuitant/annuitantlaw03.CalendarSmall", spec := "calendarSmall", unfollowed := true, recurses := true, named := ["annuitant/calendar.lengths", "annuitant/calendar.fields"], apart := false, laid := [("annuitant/calendar.lengths", laid_annuitant_calendar_lengths), ("annuitant/calendar.fields", laid_annuitant_calendar_fields)] }
def CalendarSmallSaid : Prop := calendarSmallRow.holds Tryd.pinned (OpenSpec.ofChange calendarSmallSpec)

/-- ITS FALSE NEIGHBOUR: 'it returns false'. Refute it at one input. -/
def calendarSmallWrong : ChangeSpec := { name := "calendarSmall", fn := fun _ => fun
  | [] => { results := [.lit (.bool false)], args := [] }
  | _ => none }
def CalendarSmallWrongFalsely : Prop := calendarSmallRow.holds Tryd.pinned (OpenSpec.ofChange calendarSmallWrong)

/-- 'annuitantlaw03.CalendarNext': WHATEVER THE INPUT: true; the input reads as it did. -/
def calendarNextSpec : ChangeSpec := { name := "calendarNext", fn := fun _ => fun
  | [d] => { results := [.lit (.bool true)], args := [d] }
  | _ => none }
def calendarNextRow : OpenClaim := { program := "ytmpkjooglpomoaadoor", sum := "3da2db978854c9b2a49bb420b87a3792da312e7847f4cd53244c4b5ca15dd9cf", func := "annuitant/annuitantlaw03.CalendarNext", spec := "calendarNext", unfollowed := true, recurses := true, named := ["annuitant/calendar.lengths", "annuitant/calendar.fields"], apart := false, laid := [("annuitant/calendar.lengths", laid_annuitant_calendar_lengths), ("annuitant/calendar.fields", laid_annuitant_calendar_fields)] }
def CalendarNextSaid : Prop := calendarNextRow.holds Tryd.pinned (OpenSpec.ofChange calendarNextSpec)

/-- ITS FALSE NEIGHBOUR: 'it returns false'. Refute it at one input. -/
def calendarNextWrong : ChangeSpec := { name := "calendarNext", fn := fun _ => fun
  | [d] => { results := [.lit (.bool false)], args := [d] }
  | _ => none }
def CalendarNextWrongFalsely : Prop := calendarNextRow.holds Tryd.pinned (OpenSpec.ofChange calendarNextWrong)

/-- 'annuitantlaw03.CalendarYears': WHATEVER THE INPUT: true; the input reads as it did. -/
def calendarYearsSpec : ChangeSpec := { name := "calendarYears", fn := fun _ => fun
  | [d] => { results := [.lit (.bool true)], args := [d] }
  | _ => none }
def calendarYearsRow : OpenClaim := { program := "ytmpkjooglpomoaadoor", sum := "3da2db978854c9b2a49bb420b87a3792da312e7847f4cd53244c4b5ca15dd9cf", func := "annuitant/annuitantlaw03.CalendarYears", spec := "calendarYears", unfollowed := true, recurses := true, named := ["annuitant/calendar.lengths", "annuitant/calendar.fields"], apart := false, laid := [("annuitant/calendar.lengths", laid_annuitant_calendar_lengths), ("annuitant/calendar.fields", laid_annuitant_calendar_fields)] }
def CalendarYearsSaid : Prop := calendarYearsRow.holds Tryd.pinned (OpenSpec.ofChange calendarYearsSpec)

/-- ITS FALSE NEIGHBOUR: 'it returns false'. Refute it at one input. -/
def calendarYearsWrong : ChangeSpec := { name := "calendarYears", fn := fun _ => fun
  | [d] => { results := [.lit (.bool false)], args := [d] }
  | _ => none }
def CalendarYearsWrongFalsely : Prop := calendarYearsRow.holds Tryd.pinned (OpenSpec.ofChange calendarYearsWrong)

/-- 'annuitantlaw03.CalendarLater': WHATEVER THE INPUT: true; the input reads as it did. -/
def calendarLaterSpec : ChangeSpec := { name := "calendarLater", fn := fun _ => fun
  | [d1, d2, d3] => { results := [.lit (.bool true)], args := [d1, d2, d3] }
  | _ => none }
def calendarLaterRow : OpenClaim := { program := "ytmpkjooglpomoaadoor", sum := "3da2db978854c9b2a49bb420b87a3792da312e7847f4cd53244c4b5ca15dd9cf", func := "annuitant/annuitantlaw03.CalendarLater", spec := "calendarLater", unfollowed := true, recurses := true, named := ["annuitant/calendar.lengths", "annuitant/calendar.fields"], apart := false, laid := [("annuitant/calendar.lengths", laid_annuitant_calendar_lengths), ("annuitant/calendar.fields", laid_annuitant_calendar_fields)] }
def CalendarLaterSaid : Prop := calendarLaterRow.holds Tryd.pinned (OpenSpec.ofChange calendarLaterSpec)

/-- ITS FALSE NEIGHBOUR: 'it returns false'. Refute it at one input. -/
def calendarLaterWrong : ChangeSpec := { name := "calendarLater", fn := fun _ => fun
  | [d1, d2, d3] => { results := [.lit (.bool false)], args := [d1, d2, d3] }
  | _ => none }
def CalendarLaterWrongFalsely : Prop := calendarLaterRow.holds Tryd.pinned (OpenSpec.ofChange calendarLaterWrong)

/-- 'annuitantlaw03.CalendarWhole': WHATEVER THE INPUT: true; the input reads as it did. -/
def calendarWholeSpec : ChangeSpec := { name := "calendarWhole", fn := fun _ => fun
  | [d1, d2] => { results := [.lit (.bool true)], args := [d1, d2] }
  | _ => none }
def calendarWholeRow : OpenClaim := { program := "ytmpkjooglpomoaadoor", sum := "3da2db978854c9b2a49bb420b87a3792da312e7847f4cd53244c4b5ca15dd9cf", func := "annuitant/annuitantlaw03.CalendarWhole", spec := "calendarWhole", unfollowed := true, recurses := true, named := ["annuitant/calendar.lengths", "annuitant/calendar.fields"], apart := false, laid := [("annuitant/calendar.lengths", laid_annuitant_calendar_lengths), ("annuitant/calendar.fields", laid_annuitant_calendar_fields)] }
def CalendarWholeSaid : Prop := calendarWholeRow.holds Tryd.pinned (OpenSpec.ofChange calendarWholeSpec)

/-- ITS FALSE NEIGHBOUR: 'it returns false'. Refute it at one input. -/
def calendarWholeWrong : ChangeSpec := { name := "calendarWhole", fn := fun _ => fun
  | [d1, d2] => { results := [.lit (.bool false)], args := [d1, d2] }
  | _ => none }
def CalendarWholeWrongFalsely : Prop := calendarWholeRow.holds Tryd.pinned (OpenSpec.ofChange calendarWholeWrong)

/-- 'annuitantlaw03.CalendarBirthdays': WHATEVER THE INPUT: true; the input reads as it did. -/
def calendarBirthdaysSpec : ChangeSpec := { name := "calendarBirthdays", fn := fun _ => fun
  | [d1, d2] => { results := [.lit (.bool true)], args := [d1, d2] }
  | _ => none }
def calendarBirthdaysRow : OpenClaim := { program := "ytmpkjooglpomoaadoor", sum := "3da2db978854c9b2a49bb420b87a3792da312e7847f4cd53244c4b5ca15dd9cf", func := "annuitant/annuitantlaw03.CalendarBirthdays", spec := "calendarBirthdays", unfollowed := true, recurses := true, named := ["annuitant/calendar.lengths", "annuitant/calendar.fields"], apart := false, laid := [("annuitant/calendar.lengths", laid_annuitant_calendar_lengths), ("annuitant/calendar.fields", laid_annuitant_calendar_fields)] }
def CalendarBirthdaysSaid : Prop := calendarBirthdaysRow.holds Tryd.pinned (OpenSpec.ofChange calendarBirthdaysSpec)

/-- ITS FALSE NEIGHBOUR: 'it returns false'. Refute it at one input. -/
def calendarBirthdaysWrong : ChangeSpec := { name := "calendarBirthdays", fn := fun _ => fun
  | [d1, d2] => { results := [.lit (.bool false)], args := [d1, d2] }
  | _ => none }
def CalendarBirthdaysWrongFalsely : Prop := calendarBirthdaysRow.holds Tryd.pinned (OpenSpec.ofChange calendarBirthdaysWrong)

/-- 'annuitantlaw03.CalendarTexts': WHATEVER THE INPUT: true; the input reads as it did. -/
def calendarTextsSpec : ChangeSpec := { name := "calendarTexts", fn := fun _ => fun
  | [d1, d2, d3] => { results := [.lit (.bool true)], args := [d1, d2, d3] }
  | _ => none }
def calendarTextsRow : OpenClaim := { program := "ytmpkjooglpomoaadoor", sum := "3da2db978854c9b2a49bb420b87a3792da312e7847f4cd53244c4b5ca15dd9cf", func := "annuitant/annuitantlaw03.CalendarTexts", spec := "calendarTexts", unfollowed := true, recurses := true, named := ["annuitant/calendar.lengths", "annuitant/calendar.fields"], apart := false, laid := [("annuitant/calendar.lengths", laid_annuitant_calendar_lengths), ("annuitant/calendar.fields", laid_annuitant_calendar_fields)] }
def CalendarTextsSaid : Prop := calendarTextsRow.holds Tryd.pinned (OpenSpec.ofChange calendarTextsSpec)

/-- ITS FALSE NEIGHBOUR: 'it returns false'. Refute it at one input. -/
def calendarTextsWrong : ChangeSpec := { name := "calendarTexts", fn := fun _ => fun
  | [d1, d2, d3] => { results := [.lit (.bool false)], args := [d1, d2, d3] }
  | _ => none }
def CalendarTextsWrongFalsely : Prop := calendarTextsRow.holds Tryd.pinned (OpenSpec.ofChange calendarTextsWrong)

/-- 'annuitantlaw03.CalendarWrong': WHATEVER THE INPUT: true; the input reads as it did. -/
def calendarWrongSpec : ChangeSpec := { name := "calendarWrong", fn := fun _ => fun
  | [d1, d2, d3] => { results := [.lit (.bool true)], args := [d1, d2, d3] }
  | _ => none }
def calendarWrongRow : OpenClaim := { program := "ytmpkjooglpomoaadoor", sum := "3da2db978854c9b2a49bb420b87a3792da312e7847f4cd53244c4b5ca15dd9cf", func := "annuitant/annuitantlaw03.CalendarWrong", spec := "calendarWrong", unfollowed := true, recurses := true, named := ["annuitant/calendar.lengths", "annuitant/calendar.fields"], apart := false, laid := [("annuitant/calendar.lengths", laid_annuitant_calendar_lengths), ("annuitant/calendar.fields", laid_annuitant_calendar_fields)] }
def CalendarWrongSaid : Prop := calendarWrongRow.holds Tryd.pinned (OpenSpec.ofChange calendarWrongSpec)

/-- ITS FALSE NEIGHBOUR: 'it returns false'. Refute it at one input. -/
def calendarWrongWrong : ChangeSpec := { name := "calendarWrong", fn := fun _ => fun
  | [d1, d2, d3] => { results := [.lit (.bool false)], args := [d1, d2, d3] }
  | _ => none }
def CalendarWrongWrongFalsely : Prop := calendarWrongRow.holds Tryd.pinned (OpenSpec.ofChange calendarWrongWrong)

/- THE SECOND FORM. 'bulk': how many values and letters a reading holds, each counted each time it is reached (what is shared counts as often as it is met; a slice's spare places count too). A statement '..UptoSaid' is the law's where the arguments, and the package variables that the reading takes, are together of bulk at most 1048576: NARROWER than '..Said'. Prove '..Said' where nothing that the law and all that it calls make is longer than what came in: it says more and counts as full. Else prove '..UptoSaid'. A law counts once. -/
mutual
def uptoBulk {H : Type} : DataW H → Nat
  | .lit (.string bytes) => bytes.length + 1
  | .lit _ => 1
  | .nil => 1
  | .ptr d => uptoBulk d + 1
  | .slice elems spare => uptoBulkAll elems + uptoBulkAll spare + 1
  | .agg parts => uptoBulkAll parts + 1
  | .iface _ d => uptoBulk d + 1
  | .map entries => uptoBulkEntries entries + 1
  | .held _ => 1
def uptoBulkAll {H : Type} : List (DataW H) → Nat
  | [] => 0
  | d :: r => uptoBulk d + uptoBulkAll r
def uptoBulkEntries {H : Type} : List (Lit × DataW H) → Nat
  | [] => 0
  | x :: r => uptoBulkEntry x + uptoBulkEntries r
def uptoBulkEntry {H : Type} : Lit × DataW H → Nat
  | (.string bytes, d) => bytes.length + uptoBulk d + 1
  | (_, d) => uptoBulk d + 1
 end
def uptoSmall : (H : Type) → List (DataW H) → Bool := fun _ ds => decide (uptoBulkAll ds ≤ 1048576)
def OpenSpec.upto (s : _root_.Go.ChangeSpec) : _root_.Go.OpenSpec := { _root_.Go.OpenSpec.ofChange s with cond := some uptoSmall }

/-- 'annuitantlaw03.CalendarDays', WHERE WHAT IT READS IS OF BULK AT MOST 1048576: true; the input reads as it did. -/
def calendarDaysUptoRow : OpenClaim := { program := "ytmpkjooglpomoaadoor", sum := "3da2db978854c9b2a49bb420b87a3792da312e7847f4cd53244c4b5ca15dd9cf", func := "annuitant/annuitantlaw03.CalendarDays", spec := "calendarDays", unfollowed := true, recurses := true, named := ["annuitant/calendar.lengths", "annuitant/calendar.fields"], apart := false, laid := [("annuitant/calendar.lengths", laid_annuitant_calendar_lengths), ("annuitant/calendar.fields", laid_annuitant_calendar_fields)], narrowed := true }
def CalendarDaysUptoSaid : Prop := calendarDaysUptoRow.holds Tryd.pinned (OpenSpec.upto calendarDaysSpec)

/-- 'annuitantlaw03.CalendarTells', WHERE WHAT IT READS IS OF BULK AT MOST 1048576: true; the input reads as it did. -/
def calendarTellsUptoRow : OpenClaim := { program := "ytmpkjooglpomoaadoor", sum := "3da2db978854c9b2a49bb420b87a3792da312e7847f4cd53244c4b5ca15dd9cf", func := "annuitant/annuitantlaw03.CalendarTells", spec := "calendarTells", unfollowed := true, recurses := true, named := ["annuitant/calendar.lengths", "annuitant/calendar.fields"], apart := false, laid := [("annuitant/calendar.lengths", laid_annuitant_calendar_lengths), ("annuitant/calendar.fields", laid_annuitant_calendar_fields)], narrowed := true }
def CalendarTellsUptoSaid : Prop := calendarTellsUptoRow.holds Tryd.pinned (OpenSpec.upto calendarTellsSpec)

/-- 'annuitantlaw03.CalendarMoves', WHERE WHAT IT READS IS OF BULK AT MOST 1048576: true; the input reads as it did. -/
def calendarMovesUptoRow : OpenClaim := { program := "ytmpkjooglpomoaadoor", sum := "3da2db978854c9b2a49bb420b87a3792da312e7847f4cd53244c4b5ca15dd9cf", func := "annuitant/annuitantlaw03.CalendarMoves", spec := "calendarMoves", unfollowed := true, recurses := true, named := ["annuitant/calendar.lengths", "annuitant/calendar.fields"], apart := false, laid := [("annuitant/calendar.lengths", laid_annuitant_calendar_lengths), ("annuitant/calendar.fields", laid_annuitant_calendar_fields)], narrowed := true }
def CalendarMovesUptoSaid : Prop := calendarMovesUptoRow.holds Tryd.pinned (OpenSpec.upto calendarMovesSpec)

/-- 'annuitantlaw03.CalendarReads', WHERE WHAT IT READS IS OF BULK AT MOST 1048576: true; the input reads as it did. -/
def calendarReadsUptoRow : OpenClaim := { program := "ytmpkjooglpomoaadoor", sum := "3da2db978854c9b2a49bb420b87a3792da312e7847f4cd53244c4b5ca15dd9cf", func := "annuitant/annuitantlaw03.CalendarReads", spec := "calendarReads", unfollowed := true, recurses := true, named := ["annuitant/calendar.lengths", "annuitant/calendar.fields"], apart := false, laid := [("annuitant/calendar.lengths", laid_annuitant_calendar_lengths), ("annuitant/calendar.fields", laid_annuitant_calendar_fields)], narrowed := true }
def CalendarReadsUptoSaid : Prop := calendarReadsUptoRow.holds Tryd.pinned (OpenSpec.upto calendarReadsSpec)

/-- 'annuitantlaw03.CalendarSmall', WHERE WHAT IT READS IS OF BULK AT MOST 1048576: true; the input reads as it did. -/
def calendarSmallUptoRow : OpenClaim := { program := "ytmpkjooglpomoaadoor", sum := "3da2db978854c9b2a49bb420b87a3792da312e7847f4cd53244c4b5ca15dd9cf", func := "annuitant/annuitantlaw03.CalendarSmall", spec := "calendarSmall", unfollowed := true, recurses := true, named := ["annuitant/calendar.lengths", "annuitant/calendar.fields"], apart := false, laid := [("annuitant/calendar.lengths", laid_annuitant_calendar_lengths), ("annuitant/calendar.fields", laid_annuitant_calendar_fields)], narrowed := true }
def CalendarSmallUptoSaid : Prop := calendarSmallUptoRow.holds Tryd.pinned (OpenSpec.upto calendarSmallSpec)

/-- 'annuitantlaw03.CalendarNext', WHERE WHAT IT READS IS OF BULK AT MOST 1048576: true; the input reads as it did. -/
def calendarNextUptoRow : OpenClaim := { program := "ytmpkjooglpomoaadoor", sum := "3da2db978854c9b2a49bb420b87a3792da312e7847f4cd53244c4b5ca15dd9cf", func := "annuitant/annuitantlaw03.CalendarNext", spec := "calendarNext", unfollowed := true, recurses := true, named := ["annuitant/calendar.lengths", "annuitant/calendar.fields"], apart := false, laid := [("annuitant/calendar.lengths", laid_annuitant_calendar_lengths), ("annuitant/calendar.fields", laid_annuitant_calendar_fields)], narrowed := true }
def CalendarNextUptoSaid : Prop := calendarNextUptoRow.holds Tryd.pinned (OpenSpec.upto calendarNextSpec)

/-- 'annuitantlaw03.CalendarYears', WHERE WHAT IT READS IS OF BULK AT MOST 1048576: true; the input reads as it did. -/
def calendarYearsUptoRow : OpenClaim := { program := "ytmpkjooglpomoaadoor", sum := "3da2db978854c9b2a49bb420b87a3792da312e7847f4cd53244c4b5ca15dd9cf", func := "annuitant/annuitantlaw03.CalendarYears", spec := "calendarYears", unfollowed := true, recurses := true, named := ["annuitant/calendar.lengths", "annuitant/calendar.fields"], apart := false, laid := [("annuitant/calendar.lengths", laid_annuitant_calendar_lengths), ("annuitant/calendar.fields", laid_annuitant_calendar_fields)], narrowed := true }
def CalendarYearsUptoSaid : Prop := calendarYearsUptoRow.holds Tryd.pinned (OpenSpec.upto calendarYearsSpec)

/-- 'annuitantlaw03.CalendarLater', WHERE WHAT IT READS IS OF BULK AT MOST 1048576: true; the input reads as it did. -/
def calendarLaterUptoRow : OpenClaim := { program := "ytmpkjooglpomoaadoor", sum := "3da2db978854c9b2a49bb420b87a3792da312e7847f4cd53244c4b5ca15dd9cf", func := "annuitant/annuitantlaw03.CalendarLater", spec := "calendarLater", unfollowed := true, recurses := true, named := ["annuitant/calendar.lengths", "annuitant/calendar.fields"], apart := false, laid := [("annuitant/calendar.lengths", laid_annuitant_calendar_lengths), ("annuitant/calendar.fields", laid_annuitant_calendar_fields)], narrowed := true }
def CalendarLaterUptoSaid : Prop := calendarLaterUptoRow.holds Tryd.pinned (OpenSpec.upto calendarLaterSpec)

/-- 'annuitantlaw03.CalendarWhole', WHERE WHAT IT READS IS OF BULK AT MOST 1048576: true; the input reads as it did. -/
def calendarWholeUptoRow : OpenClaim := { program := "ytmpkjooglpomoaadoor", sum := "3da2db978854c9b2a49bb420b87a3792da312e7847f4cd53244c4b5ca15dd9cf", func := "annuitant/annuitantlaw03.CalendarWhole", spec := "calendarWhole", unfollowed := true, recurses := true, named := ["annuitant/calendar.lengths", "annuitant/calendar.fields"], apart := false, laid := [("annuitant/calendar.lengths", laid_annuitant_calendar_lengths), ("annuitant/calendar.fields", laid_annuitant_calendar_fields)], narrowed := true }
def CalendarWholeUptoSaid : Prop := calendarWholeUptoRow.holds Tryd.pinned (OpenSpec.upto calendarWholeSpec)

/-- 'annuitantlaw03.CalendarBirthdays', WHERE WHAT IT READS IS OF BULK AT MOST 1048576: true; the input reads as it did. -/
def calendarBirthdaysUptoRow : OpenClaim := { program := "ytmpkjooglpomoaadoor", sum := "3da2db978854c9b2a49bb420b87a3792da312e7847f4cd53244c4b5ca15dd9cf", func := "annuitant/annuitantlaw03.CalendarBirthdays", spec := "calendarBirthdays", unfollowed := true, recurses := true, named := ["annuitant/calendar.lengths", "annuitant/calendar.fields"], apart := false, laid := [("annuitant/calendar.lengths", laid_annuitant_calendar_lengths), ("annuitant/calendar.fields", laid_annuitant_calendar_fields)], narrowed := true }
def CalendarBirthdaysUptoSaid : Prop := calendarBirthdaysUptoRow.holds Tryd.pinned (OpenSpec.upto calendarBirthdaysSpec)

/-- 'annuitantlaw03.CalendarTexts', WHERE WHAT IT READS IS OF BULK AT MOST 1048576: true; the input reads as it did. -/
def calendarTextsUptoRow : OpenClaim := { program := "ytmpkjooglpomoaadoor", sum := "3da2db978854c9b2a49bb420b87a3792da312e7847f4cd53244c4b5ca15dd9cf", func := "annuitant/annuitantlaw03.CalendarTexts", spec := "calendarTexts", unfollowed := true, recurses := true, named := ["annuitant/calendar.lengths", "annuitant/calendar.fields"], apart := false, laid := [("annuitant/calendar.lengths", laid_annuitant_calendar_lengths), ("annuitant/calendar.fields", laid_annuitant_calendar_fields)], narrowed := true }
def CalendarTextsUptoSaid : Prop := calendarTextsUptoRow.holds Tryd.pinned (OpenSpec.upto calendarTextsSpec)

/-- 'annuitantlaw03.CalendarWrong', WHERE WHAT IT READS IS OF BULK AT MOST 1048576: true; the input reads as it did. -/
def calendarWrongUptoRow : OpenClaim := { program := "ytmpkjooglpomoaadoor", sum := "3da2db978854c9b2a49bb420b87a3792da312e7847f4cd53244c4b5ca15dd9cf", func := "annuitant/annuitantlaw03.CalendarWrong", spec := "calendarWrong", unfollowed := true, recurses := true, named := ["annuitant/calendar.lengths", "annuitant/calendar.fields"], apart := false, laid := [("annuitant/calendar.lengths", laid_annuitant_calendar_lengths), ("annuitant/calendar.fields", laid_annuitant_calendar_fields)], narrowed := true }
def CalendarWrongUptoSaid : Prop := calendarWrongUptoRow.holds Tryd.pinned (OpenSpec.upto calendarWrongSpec)

end Rows
end Go.Proofs.YtmpkjooglpomoaaDoor
