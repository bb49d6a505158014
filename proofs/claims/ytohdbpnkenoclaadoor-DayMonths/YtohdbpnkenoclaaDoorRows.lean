/-
  NARROWER THAN 'FOR EVERY INPUT', by the rows' own cells (each row's printed sentence says how): DayYears: laid · DayNumbers: laid · DayMoves: laid · DayAges: laid · DayMonths: laid · DayBetween: laid.
  DERIVED. THE GIVEN ROWS OF THIS SEAT. 6 by the template 'for every input the law returns true; each argument reads behind the call as it read before'; 0 by the template 'total and deterministic' (their statements: YtohdbpnkenoclaaDoorTotals.lean).
  GIVEN WITH THE SEED: the statements are not yours to turn. If you find one false, say at which input.
  Laid BY PROGRAM, IN A SANDBOX (cutbox-rows.mjs): the forced cells as the released guide's own fill.sh prints them over the translation a063786d9d3612a5… (all of the seat's roots in one cut). By AI agents, Wed Nov 11 2026. No macro, syntax, notation, axiom, sorry.
-/
import Derived.Test.YtohdbpnkenoclaaDoorChecked
import GoSem.Claim
import GoSem.ClaimJoined
import GoSem.ClaimMapViews
import Derived.JoinedTies
import Derived.KernelRfl
namespace Go.Proofs.YtohdbpnkenoclaaDoor
/- THE CELL 'sum', in the pinned program and in every row, IS THE sha256 OF THE DUMP (.gsa) THAT YtohdbpnkenoclaaDoorProg.lean LOADS. Nothing in Lean hashes anything: it is a label: what it is worth is what the hold of that sum in a sandbox is worth. -/
noncomputable def Tryd.pinned : Pinned := { name := "ytohdbpnkenoclaadoor", sum := "a063786d9d3612a51829f6d8ba2fce88ef8d4ed831d5f4c172c3b55e436c0b2b", checked := Tryd.checked }
namespace Rows
def none {H : Type} : Left H := { results := [], args := [] }

/- WHAT THE LISTED PACKAGE-LEVEL VARIABLES READ AS WHEN THE CALL BEGINS. Each datum BY PROGRAM (the guide's laid-datum.mjs) off the statement by which the dump's own 'gosem.cut.vars' lays the variable. In a bare row this is a premise. The card (YtohdbpnkenoclaaDoorCards.lean) ties it to the program's text. -/
def laid_tontine_day_lengths {H : Type} : DataW H := .agg [.lit (.int .i64 31), .lit (.int .i64 28), .lit (.int .i64 31), .lit (.int .i64 30), .lit (.int .i64 31), .lit (.int .i64 30), .lit (.int .i64 31), .lit (.int .i64 31), .lit (.int .i64 30), .lit (.int .i64 31), .lit (.int .i64 30), .lit (.int .i64 31)]

/-- 'tontinelaw07.DayYears': WHATEVER THE INPUT: true; the input reads as it did. -/
def dayYearsSpec : ChangeSpec := { name := "dayYears", fn := fun _ => fun
  | [d1, d2] => { results := [.lit (.bool true)], args := [d1, d2] }
  | _ => none }
def dayYearsRow : OpenClaim := { program := "ytohdbpnkenoclaadoor", sum := "a063786d9d3612a51829f6d8ba2fce88ef8d4ed831d5f4c172c3b55e436c0b2b", func := "tontine/tontinelaw07.DayYears", spec := "dayYears", named := ["tontine/day.lengths"], apart := false, laid := [("tontine/day.lengths", laid_tontine_day_lengths)] }
def DayYearsSaid : Prop := dayYearsRow.holds Tryd.pinned (OpenSpec.ofChange dayYearsSpec)

/-- ITS FALSE NEIGHBOUR: 'it returns false'. Refute it at one input. -/
def dayYearsWrong : ChangeSpec := { name := "dayYears", fn := fun _ => fun
  | [d1, d2] => { results := [.lit (.bool false)], args := [d1, d2] }
  | _ => none }
def DayYearsWrongFalsely : Prop := dayYearsRow.holds Tryd.pinned (OpenSpec.ofChange dayYearsWrong)

/-- 'tontinelaw07.DayNumbers': WHATEVER THE INPUT: true; the input reads as it did. -/
def dayNumbersSpec : ChangeSpec := { name := "dayNumbers", fn := fun _ => fun
  | [d1, d2] => { results := [.lit (.bool true)], args := [d1, d2] }
  | _ => none }
def dayNumbersRow : OpenClaim := { program := "ytohdbpnkenoclaadoor", sum := "a063786d9d3612a51829f6d8ba2fce88ef8d4ed831d5f4c172c3b55e436c0b2b", func := "tontine/tontinelaw07.DayNumbers", spec := "dayNumbers", named := ["tontine/day.lengths"], apart := false, laid := [("tontine/day.lengths", laid_tontine_day_lengths)] }
def DayNumbersSaid : Prop := dayNumbersRow.holds Tryd.pinned (OpenSpec.ofChange dayNumbersSpec)

/-- ITS FALSE NEIGHBOUR: 'it returns false'. Refute it at one input. -/
def dayNumbersWrong : ChangeSpec := { name := "dayNumbers", fn := fun _ => fun
  | [d1, d2] => { results := [.lit (.bool false)], args := [d1, d2] }
  | _ => none }
def DayNumbersWrongFalsely : Prop := dayNumbersRow.holds Tryd.pinned (OpenSpec.ofChange dayNumbersWrong)

/-- 'tontinelaw07.DayMoves': WHATEVER THE INPUT: true; the input reads as it did. -/
def dayMovesSpec : ChangeSpec := { name := "dayMoves", fn := fun _ => fun
  | [d1, d2] => { results := [.lit (.bool true)], args := [d1, d2] }
  | _ => none }
def dayMovesRow : OpenClaim := { program := "ytohdbpnkenoclaadoor", sum := "a063786d9d3612a51829f6d8ba2fce88ef8d4ed831d5f4c172c3b55e436c0b2b", func := "tontine/tontinelaw07.DayMoves", spec := "dayMoves", named := ["tontine/day.lengths"], apart := false, laid := [("tontine/day.lengths", laid_tontine_day_lengths)] }
def DayMovesSaid : Prop := dayMovesRow.holds Tryd.pinned (OpenSpec.ofChange dayMovesSpec)

/-- ITS FALSE NEIGHBOUR: 'it returns false'. Refute it at one input. -/
def dayMovesWrong : ChangeSpec := { name := "dayMoves", fn := fun _ => fun
  | [d1, d2] => { results := [.lit (.bool false)], args := [d1, d2] }
  | _ => none }
def DayMovesWrongFalsely : Prop := dayMovesRow.holds Tryd.pinned (OpenSpec.ofChange dayMovesWrong)

/-- 'tontinelaw07.DayAges': WHATEVER THE INPUT: true; the input reads as it did. -/
def dayAgesSpec : ChangeSpec := { name := "dayAges", fn := fun _ => fun
  | [d1, d2, d3] => { results := [.lit (.bool true)], args := [d1, d2, d3] }
  | _ => none }
def dayAgesRow : OpenClaim := { program := "ytohdbpnkenoclaadoor", sum := "a063786d9d3612a51829f6d8ba2fce88ef8d4ed831d5f4c172c3b55e436c0b2b", func := "tontine/tontinelaw07.DayAges", spec := "dayAges", named := ["tontine/day.lengths"], apart := false, laid := [("tontine/day.lengths", laid_tontine_day_lengths)] }
def DayAgesSaid : Prop := dayAgesRow.holds Tryd.pinned (OpenSpec.ofChange dayAgesSpec)

/-- ITS FALSE NEIGHBOUR: 'it returns false'. Refute it at one input. -/
def dayAgesWrong : ChangeSpec := { name := "dayAges", fn := fun _ => fun
  | [d1, d2, d3] => { results := [.lit (.bool false)], args := [d1, d2, d3] }
  | _ => none }
def DayAgesWrongFalsely : Prop := dayAgesRow.holds Tryd.pinned (OpenSpec.ofChange dayAgesWrong)

/-- 'tontinelaw07.DayMonths': WHATEVER THE INPUT: true; the input reads as it did. -/
def dayMonthsSpec : ChangeSpec := { name := "dayMonths", fn := fun _ => fun
  | [d1, d2, d3] => { results := [.lit (.bool true)], args := [d1, d2, d3] }
  | _ => none }
def dayMonthsRow : OpenClaim := { program := "ytohdbpnkenoclaadoor", sum := "a063786d9d3612a51829f6d8ba2fce88ef8d4ed831d5f4c172c3b55e436c0b2b", func := "tontine/tontinelaw07.DayMonths", spec := "dayMonths", named := ["tontine/day.lengths"], apart := false, laid := [("tontine/day.lengths", laid_tontine_day_lengths)] }
def DayMonthsSaid : Prop := dayMonthsRow.holds Tryd.pinned (OpenSpec.ofChange dayMonthsSpec)

/-- ITS FALSE NEIGHBOUR: 'it returns false'. Refute it at one input. -/
def dayMonthsWrong : ChangeSpec := { name := "dayMonths", fn := fun _ => fun
  | [d1, d2, d3] => { results := [.lit (.bool false)], args := [d1, d2, d3] }
  | _ => none }
def DayMonthsWrongFalsely : Prop := dayMonthsRow.holds Tryd.pinned (OpenSpec.ofChange dayMonthsWrong)

/-- 'tontinelaw07.DayBetween': WHATEVER THE INPUT: true; the input reads as it did. -/
def dayBetweenSpec : ChangeSpec := { name := "dayBetween", fn := fun _ => fun
  | [d1, d2] => { results := [.lit (.bool true)], args := [d1, d2] }
  | _ => none }
def dayBetweenRow : OpenClaim := { program := "ytohdbpnkenoclaadoor", sum := "a063786d9d3612a51829f6d8ba2fce88ef8d4ed831d5f4c172c3b55e436c0b2b", func := "tontine/tontinelaw07.DayBetween", spec := "dayBetween", named := ["tontine/day.lengths"], apart := false, laid := [("tontine/day.lengths", laid_tontine_day_lengths)] }
def DayBetweenSaid : Prop := dayBetweenRow.holds Tryd.pinned (OpenSpec.ofChange dayBetweenSpec)

/-- ITS FALSE NEIGHBOUR: 'it returns false'. Refute it at one input. -/
def dayBetweenWrong : ChangeSpec := { name := "dayBetween", fn := fun _ => fun
  | [d1, d2] => { results := [.lit (.bool false)], args := [d1, d2] }
  | _ => none }
def DayBetweenWrongFalsely : Prop := dayBetweenRow.holds Tryd.pinned (OpenSpec.ofChange dayBetweenWrong)

/- THE SECOND FORM. 'bulk': how many values and letters a reading holds, each counted each time it is reached (what is shared counts as often as it is met; a slice's spare places count too). A statement '..UptoSaid' is the law's where the arguments, and the package variables that the reading takes, are together of bulk at most 1048576: NARROWER than '..Said'. Prove '..Said' where nothing that the law and all that it calls make is longer than what came in: it says more and counts as full. Else prove '..UptoSaid'. A law counts once. -/
mutual
def uptoBulk {H : Type} : DataW H → Nat
  | .lit (.string bytes) => bytes.length + 1
  | .lit _ => 1
  | .nil => 1
  | .ptr d => uptoBulk d + 1
  | .slice elems spare => uptoBulkAll elems + uptoBulkAll spare + 1
  | .agg parts => uptoBulkAll parts + 1
  | .iface _ d => uptoBulk d + 1
  | .map entries => uptoBulkEntries entries + 1
  | .held _ => 1
def uptoBulkAll {H : Type} : List (DataW H) → Nat
  | [] => 0
  | d :: r => uptoBulk d + uptoBulkAll r
def uptoBulkEntries {H : Type} : List (Lit × DataW H) → Nat
  | [] => 0
  | x :: r => uptoBulkEntry x + uptoBulkEntries r
def uptoBulkEntry {H : Type} : Lit × DataW H → Nat
  | (.string bytes, d) => bytes.length + uptoBulk d + 1
  | (_, d) => uptoBulk d + 1
 end
def uptoSmall : (H : Type) → List (DataW H) → Bool := fun _ ds => decide (uptoBulkAll ds ≤ 1048576)
def OpenSpec.upto (s : _root_.Go.ChangeSpec) : _root_.Go.OpenSpec := { _root_.Go.OpenSpec.ofChange s with cond := some uptoSmall }

/-- 'tontinelaw07.DayYears', WHERE WHAT IT READS IS OF BULK AT MOST 1048576: true; the input reads as it did. -/
def dayYearsUptoRow : OpenClaim := { program := "ytohdbpnkenoclaadoor", sum := "a063786d9d3612a51829f6d8ba2fce88ef8d4ed831d5f4c172c3b55e436c0b2b", func := "tontine/tontinelaw07.DayYears", spec := "dayYears", named := ["tontine/day.lengths"], apart := false, laid := [("tontine/day.lengths", laid_tontine_day_lengths)], narrowed := true }
def DayYearsUptoSaid : Prop := dayYearsUptoRow.holds Tryd.pinned (OpenSpec.upto dayYearsSpec)

/-- 'tontinelaw07.DayNumbers', WHERE WHAT IT READS IS OF BULK AT MOST 1048576: true; the input reads as it did. -/
def dayNumbersUptoRow : OpenClaim := { program := "ytohdbpnkenoclaadoor", sum := "a063786d9d3612a51829f6d8ba2fce88ef8d4ed831d5f4c172c3b55e436c0b2b", func := "tontine/tontinelaw07.DayNumbers", spec := "dayNumbers", named := ["tontine/day.lengths"], apart := false, laid := [("tontine/day.lengths", laid_tontine_day_lengths)], narrowed := true }
def DayNumbersUptoSaid : Prop := dayNumbersUptoRow.holds Tryd.pinned (OpenSpec.upto dayNumbersSpec)

/-- 'tontinelaw07.DayMoves', WHERE WHAT IT READS IS OF BULK AT MOST 1048576: true; the input reads as it did. -/
def dayMovesUptoRow : OpenClaim := { program := "ytohdbpnkenoclaadoor", sum := "a063786d9d3612a51829f6d8ba2fce88ef8d4ed831d5f4c172c3b55e436c0b2b", func := "tontine/tontinelaw07.DayMoves", spec := "dayMoves", named := ["tontine/day.lengths"], apart := false, laid := [("tontine/day.lengths", laid_tontine_day_lengths)], narrowed := true }
def DayMovesUptoSaid : Prop := dayMovesUptoRow.holds Tryd.pinned (OpenSpec.upto dayMovesSpec)

/-- 'tontinelaw07.DayAges', WHERE WHAT IT READS IS OF BULK AT MOST 1048576: true; the input reads as it did. -/
def dayAgesUptoRow : OpenClaim := { program := "ytohdbpnkenoclaadoor", sum := "a063786d9d3612a51829f6d8ba2fce88ef8d4ed831d5f4c172c3b55e436c0b2b", func := "tontine/tontinelaw07.DayAges", spec := "dayAges", named := ["tontine/day.lengths"], apart := false, laid := [("tontine/day.lengths", laid_tontine_day_lengths)], narrowed := true }
def DayAgesUptoSaid : Prop := dayAgesUptoRow.holds Tryd.pinned (OpenSpec.upto dayAgesSpec)

/-- 'tontinelaw07.DayMonths', WHERE WHAT IT READS IS OF BULK AT MOST 1048576: true; the input reads as it did. -/
def dayMonthsUptoRow : OpenClaim := { program := "ytohdbpnkenoclaadoor", sum := "a063786d9d3612a51829f6d8ba2fce88ef8d4ed831d5f4c172c3b55e436c0b2b", func := "tontine/tontinelaw07.DayMonths", spec := "dayMonths", named := ["tontine/day.lengths"], apart := false, laid := [("tontine/day.lengths", laid_tontine_day_lengths)], narrowed := true }
def DayMonthsUptoSaid : Prop := dayMonthsUptoRow.holds Tryd.pinned (OpenSpec.upto dayMonthsSpec)

/-- 'tontinelaw07.DayBetween', WHERE WHAT IT READS IS OF BULK AT MOST 1048576: true; the input reads as it did. -/
def dayBetweenUptoRow : OpenClaim := { program := "ytohdbpnkenoclaadoor", sum := "a063786d9d3612a51829f6d8ba2fce88ef8d4ed831d5f4c172c3b55e436c0b2b", func := "tontine/tontinelaw07.DayBetween", spec := "dayBetween", named := ["tontine/day.lengths"], apart := false, laid := [("tontine/day.lengths", laid_tontine_day_lengths)], narrowed := true }
def DayBetweenUptoSaid : Prop := dayBetweenUptoRow.holds Tryd.pinned (OpenSpec.upto dayBetweenSpec)

end Rows
end Go.Proofs.YtohdbpnkenoclaaDoor
