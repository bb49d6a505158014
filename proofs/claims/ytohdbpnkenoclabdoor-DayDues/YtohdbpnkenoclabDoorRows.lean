/-
  NARROWER THAN 'FOR EVERY INPUT', by the rows' own cells (each row's printed sentence says how): DayOlder: laid · DayDues: laid.
  DERIVED. THE GIVEN ROWS OF THIS SEAT. 2 by the template 'for every input the law returns true; each argument reads behind the call as it read before'; 0 by the template 'total and deterministic' (their statements: YtohdbpnkenoclabDoorTotals.lean).
  GIVEN WITH THE SEED: the statements are not yours to turn. If you find one false, say at which input.
  Laid BY PROGRAM, IN A SANDBOX (cutbox-rows.mjs): the forced cells as the released guide's own fill.sh prints them over the translation 5b8fd0e2345be8b9… (all of the seat's roots in one cut). By AI agents, Wed Nov 11 2026. No macro, syntax, notation, axiom, sorry.
-/
import Derived.Test.YtohdbpnkenoclabDoorChecked
import GoSem.Claim
import GoSem.ClaimJoined
import GoSem.ClaimMapViews
import Derived.JoinedTies
import Derived.KernelRfl
namespace Go.Proofs.YtohdbpnkenoclabDoor
/- THE CELL 'sum', in the pinned program and in every row, IS THE sha256 OF THE DUMP (.gsa) THAT YtohdbpnkenoclabDoorProg.lean LOADS. Nothing in Lean hashes anything: it is a label: what it is worth is what the hold of that sum in a sandbox is worth. -/
noncomputable def Tryd.pinned : Pinned := { name := "ytohdbpnkenoclabdoor", sum := "5b8fd0e2345be8b9321cc1c68636ce10f40f903fc4bc6db17d286d235e47a372", checked := Tryd.checked }
namespace Rows
def none {H : Type} : Left H := { results := [], args := [] }

/- WHAT THE LISTED PACKAGE-LEVEL VARIABLES READ AS WHEN THE CALL BEGINS. Each datum BY PROGRAM (the guide's laid-datum.mjs) off the statement by which the dump's own 'gosem.cut.vars' lays the variable. In a bare row this is a premise. The card (YtohdbpnkenoclabDoorCards.lean) ties it to the program's text. -/
def laid_tontine_day_lengths {H : Type} : DataW H := .agg [.lit (.int .i64 31), .lit (.int .i64 28), .lit (.int .i64 31), .lit (.int .i64 30), .lit (.int .i64 31), .lit (.int .i64 30), .lit (.int .i64 31), .lit (.int .i64 31), .lit (.int .i64 30), .lit (.int .i64 31), .lit (.int .i64 30), .lit (.int .i64 31)]

/-- 'tontinelaw07.DayOlder': WHATEVER THE INPUT: true; the input reads as it did. -/
def dayOlderSpec : ChangeSpec := { name := "dayOlder", fn := fun _ => fun
  | [d1, d2] => { results := [.lit (.bool true)], args := [d1, d2] }
  | _ => none }
def dayOlderRow : OpenClaim := { program := "ytohdbpnkenoclabdoor", sum := "5b8fd0e2345be8b9321cc1c68636ce10f40f903fc4bc6db17d286d235e47a372", func := "tontine/tontinelaw07.DayOlder", spec := "dayOlder", named := ["tontine/day.lengths"], apart := false, laid := [("tontine/day.lengths", laid_tontine_day_lengths)] }
def DayOlderSaid : Prop := dayOlderRow.holds Tryd.pinned (OpenSpec.ofChange dayOlderSpec)

/-- ITS FALSE NEIGHBOUR: 'it returns false'. Refute it at one input. -/
def dayOlderWrong : ChangeSpec := { name := "dayOlder", fn := fun _ => fun
  | [d1, d2] => { results := [.lit (.bool false)], args := [d1, d2] }
  | _ => none }
def DayOlderWrongFalsely : Prop := dayOlderRow.holds Tryd.pinned (OpenSpec.ofChange dayOlderWrong)

/-- 'tontinelaw07.DayDues': WHATEVER THE INPUT: true; the input reads as it did. -/
def dayDuesSpec : ChangeSpec := { name := "dayDues", fn := fun _ => fun
  | [d1, d2, d3] => { results := [.lit (.bool true)], args := [d1, d2, d3] }
  | _ => none }
def dayDuesRow : OpenClaim := { program := "ytohdbpnkenoclabdoor", sum := "5b8fd0e2345be8b9321cc1c68636ce10f40f903fc4bc6db17d286d235e47a372", func := "tontine/tontinelaw07.DayDues", spec := "dayDues", named := ["tontine/day.lengths"], apart := false, laid := [("tontine/day.lengths", laid_tontine_day_lengths)] }
def DayDuesSaid : Prop := dayDuesRow.holds Tryd.pinned (OpenSpec.ofChange dayDuesSpec)

/-- ITS FALSE NEIGHBOUR: 'it returns false'. Refute it at one input. -/
def dayDuesWrong : ChangeSpec := { name := "dayDues", fn := fun _ => fun
  | [d1, d2, d3] => { results := [.lit (.bool false)], args := [d1, d2, d3] }
  | _ => none }
def DayDuesWrongFalsely : Prop := dayDuesRow.holds Tryd.pinned (OpenSpec.ofChange dayDuesWrong)

/- THE SECOND FORM. 'bulk': how many values and letters a reading holds, each counted each time it is reached (what is shared counts as often as it is met; a slice's spare places count too). A statement '..UptoSaid' is the law's where the arguments, and the package variables that the reading takes, are together of bulk at most 1048576: NARROWER than '..Said'. Prove '..Said' where nothing that the law and all that it calls make is longer than what came in: it says more and counts as full. Else prove '..UptoSaid'. A law counts once. -/
mutual
def uptoBulk {H : Type} : DataW H → Nat
  | .lit (.string bytes) => bytes.length + 1
  | .lit _ => 1
  | .nil => 1
  | .ptr d => uptoBulk d + 1
  | .slice elems spare => uptoBulkAll elems + uptoBulkAll spare + 1
  | .agg parts => uptoBulkAll parts + 1
  | .iface _ d => uptoBulk d + 1
  | .map entries => uptoBulkEntries entries + 1
  | .held _ => 1
def uptoBulkAll {H : Type} : List (DataW H) → Nat
  | [] => 0
  | d :: r => uptoBulk d + uptoBulkAll r
def uptoBulkEntries {H : Type} : List (Lit × DataW H) → Nat
  | [] => 0
  | x :: r => uptoBulkEntry x + uptoBulkEntries r
def uptoBulkEntry {H : Type} : Lit × DataW H → Nat
  | (.string bytes, d) => bytes.length + uptoBulk d + 1
  | (_, d) => uptoBulk d + 1
 end
def uptoSmall : (H : Type) → List (DataW H) → Bool := fun _ ds => decide (uptoBulkAll ds ≤ 1048576)
def OpenSpec.upto (s : _root_.Go.ChangeSpec) : _root_.Go.OpenSpec := { _root_.Go.OpenSpec.ofChange s with cond := some uptoSmall }

/-- 'tontinelaw07.DayOlder', WHERE WHAT IT READS IS OF BULK AT MOST 1048576: true; the input reads as it did. -/
def dayOlderUptoRow : OpenClaim := { program := "ytohdbpnkenoclabdoor", sum := "5b8fd0e2345be8b9321cc1c68636ce10f40f903fc4bc6db17d286d235e47a372", func := "tontine/tontinelaw07.DayOlder", spec := "dayOlder", named := ["tontine/day.lengths"], apart := false, laid := [("tontine/day.lengths", laid_tontine_day_lengths)], narrowed := true }
def DayOlderUptoSaid : Prop := dayOlderUptoRow.holds Tryd.pinned (OpenSpec.upto dayOlderSpec)

/-- 'tontinelaw07.DayDues', WHERE WHAT IT READS IS OF BULK AT MOST 1048576: true; the input reads as it did. -/
def dayDuesUptoRow : OpenClaim := { program := "ytohdbpnkenoclabdoor", sum := "5b8fd0e2345be8b9321cc1c68636ce10f40f903fc4bc6db17d286d235e47a372", func := "tontine/tontinelaw07.DayDues", spec := "dayDues", named := ["tontine/day.lengths"], apart := false, laid := [("tontine/day.lengths", laid_tontine_day_lengths)], narrowed := true }
def DayDuesUptoSaid : Prop := dayDuesUptoRow.holds Tryd.pinned (OpenSpec.upto dayDuesSpec)

end Rows
end Go.Proofs.YtohdbpnkenoclabDoor
