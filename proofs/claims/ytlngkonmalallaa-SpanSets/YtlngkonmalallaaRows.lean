/-
  No cell of these rows narrows 'for every input' (looked for: loops, veiled, ifaces, maps, wideKeys, modest, calm, conditions, laid).
  DERIVED. THE GIVEN ROWS OF THIS SEAT. 5 by the template 'for every input the law returns true; each argument reads behind the call as it read before'; 0 by the template 'total and deterministic' (their statements: YtlngkonmalallaaTotals.lean).
  GIVEN WITH THE SEED: the statements are not yours to turn. If you find one false, say at which input.
  Laid BY PROGRAM, IN A SANDBOX (cutbox-rows.mjs): the forced cells as the released guide's own fill.sh prints them over the translation f76c43654e5b3660… (all of the seat's roots in one cut). By AI agents, Wed Nov 11 2026. No macro, syntax, notation, axiom, sorry.
-/
import Derived.Test.YtlngkonmalallaaChecked
import GoSem.Claim
import GoSem.ClaimJoined
import GoSem.ClaimMapViews
import Derived.JoinedTies
import Derived.KernelRfl
namespace Go.Proofs.Ytlngkonmalallaa
/- THE CELL 'sum', in the pinned program and in every row, IS THE sha256 OF THE DUMP (.gsa) THAT YtlngkonmalallaaProg.lean LOADS. Nothing in Lean hashes anything: it is a label: what it is worth is what the hold of that sum in a sandbox is worth. -/
noncomputable def Try.pinned : Pinned := { name := "ytlngkonmalallaa", sum := "f76c43654e5b366095c6f865f1dc37233c4e3c55918169078b5de94e4067044e", checked := Try.checked }
namespace Rows
def none {H : Type} : Left H := { results := [], args := [] }

/-- 'tontinelaw02.FloatSplits': WHATEVER THE INPUT: true; the input reads as it did. -/
def floatSplitsSpec : ChangeSpec := { name := "floatSplits", fn := fun _ => fun
  | [d1, d2, d3] => { results := [.lit (.bool true)], args := [d1, d2, d3] }
  | _ => none }
def floatSplitsRow : OpenClaim := { program := "ytlngkonmalallaa", sum := "f76c43654e5b366095c6f865f1dc37233c4e3c55918169078b5de94e4067044e", func := "tontine/tontinelaw02.FloatSplits", spec := "floatSplits", inPlace := ["math.Float64frombits", "math.Float64bits", "math.Float32frombits", "math.Float32bits"], apart := false }
def FloatSplitsSaid : Prop := floatSplitsRow.holds Try.pinned (OpenSpec.ofChange floatSplitsSpec)

/-- ITS FALSE NEIGHBOUR: 'it returns false'. Refute it at one input. -/
def floatSplitsWrong : ChangeSpec := { name := "floatSplits", fn := fun _ => fun
  | [d1, d2, d3] => { results := [.lit (.bool false)], args := [d1, d2, d3] }
  | _ => none }
def FloatSplitsWrongFalsely : Prop := floatSplitsRow.holds Try.pinned (OpenSpec.ofChange floatSplitsWrong)

/-- 'tontinelaw02.FloatNarrows': WHATEVER THE INPUT: true; the input reads as it did. -/
def floatNarrowsSpec : ChangeSpec := { name := "floatNarrows", fn := fun _ => fun
  | [d1, d2, d3] => { results := [.lit (.bool true)], args := [d1, d2, d3] }
  | _ => none }
def floatNarrowsRow : OpenClaim := { program := "ytlngkonmalallaa", sum := "f76c43654e5b366095c6f865f1dc37233c4e3c55918169078b5de94e4067044e", func := "tontine/tontinelaw02.FloatNarrows", spec := "floatNarrows", inPlace := ["math.Float64frombits", "math.Float64bits", "math.Float32frombits", "math.Float32bits"], apart := false }
def FloatNarrowsSaid : Prop := floatNarrowsRow.holds Try.pinned (OpenSpec.ofChange floatNarrowsSpec)

/-- ITS FALSE NEIGHBOUR: 'it returns false'. Refute it at one input. -/
def floatNarrowsWrong : ChangeSpec := { name := "floatNarrows", fn := fun _ => fun
  | [d1, d2, d3] => { results := [.lit (.bool false)], args := [d1, d2, d3] }
  | _ => none }
def FloatNarrowsWrongFalsely : Prop := floatNarrowsRow.holds Try.pinned (OpenSpec.ofChange floatNarrowsWrong)

/-- 'tontinelaw02.FloatSteps': WHATEVER THE INPUT: true; the input reads as it did. -/
def floatStepsSpec : ChangeSpec := { name := "floatSteps", fn := fun _ => fun
  | [d1, d2] => { results := [.lit (.bool true)], args := [d1, d2] }
  | _ => none }
def floatStepsRow : OpenClaim := { program := "ytlngkonmalallaa", sum := "f76c43654e5b366095c6f865f1dc37233c4e3c55918169078b5de94e4067044e", func := "tontine/tontinelaw02.FloatSteps", spec := "floatSteps", inPlace := ["math.Float64frombits", "math.Float64bits"], apart := false }
def FloatStepsSaid : Prop := floatStepsRow.holds Try.pinned (OpenSpec.ofChange floatStepsSpec)

/-- ITS FALSE NEIGHBOUR: 'it returns false'. Refute it at one input. -/
def floatStepsWrong : ChangeSpec := { name := "floatSteps", fn := fun _ => fun
  | [d1, d2] => { results := [.lit (.bool false)], args := [d1, d2] }
  | _ => none }
def FloatStepsWrongFalsely : Prop := floatStepsRow.holds Try.pinned (OpenSpec.ofChange floatStepsWrong)

/-- 'tontinelaw02.FloatWholes': WHATEVER THE INPUT: true; the input reads as it did. -/
def floatWholesSpec : ChangeSpec := { name := "floatWholes", fn := fun _ => fun
  | [d1, d2, d3] => { results := [.lit (.bool true)], args := [d1, d2, d3] }
  | _ => none }
def floatWholesRow : OpenClaim := { program := "ytlngkonmalallaa", sum := "f76c43654e5b366095c6f865f1dc37233c4e3c55918169078b5de94e4067044e", func := "tontine/tontinelaw02.FloatWholes", spec := "floatWholes", inPlace := ["math.Float64frombits", "math.Float64bits"], apart := false }
def FloatWholesSaid : Prop := floatWholesRow.holds Try.pinned (OpenSpec.ofChange floatWholesSpec)

/-- ITS FALSE NEIGHBOUR: 'it returns false'. Refute it at one input. -/
def floatWholesWrong : ChangeSpec := { name := "floatWholes", fn := fun _ => fun
  | [d1, d2, d3] => { results := [.lit (.bool false)], args := [d1, d2, d3] }
  | _ => none }
def FloatWholesWrongFalsely : Prop := floatWholesRow.holds Try.pinned (OpenSpec.ofChange floatWholesWrong)

/-- 'tontinelaw05.SpanSets': WHATEVER THE INPUT: true; the input reads as it did. -/
def spanSetsSpec : ChangeSpec := { name := "spanSets", fn := fun _ => fun
  | [d1, d2] => { results := [.lit (.bool true)], args := [d1, d2] }
  | _ => none }
def spanSetsRow : OpenClaim := { program := "ytlngkonmalallaa", sum := "f76c43654e5b366095c6f865f1dc37233c4e3c55918169078b5de94e4067044e", func := "tontine/tontinelaw05.SpanSets", spec := "spanSets", inPlace := ["math.Float64bits", "math.Float64frombits"], apart := false }
def SpanSetsSaid : Prop := spanSetsRow.holds Try.pinned (OpenSpec.ofChange spanSetsSpec)

/-- ITS FALSE NEIGHBOUR: 'it returns false'. Refute it at one input. -/
def spanSetsWrong : ChangeSpec := { name := "spanSets", fn := fun _ => fun
  | [d1, d2] => { results := [.lit (.bool false)], args := [d1, d2] }
  | _ => none }
def SpanSetsWrongFalsely : Prop := spanSetsRow.holds Try.pinned (OpenSpec.ofChange spanSetsWrong)

/- THE SECOND FORM. 'bulk': how many values and letters a reading holds, each counted each time it is reached (what is shared counts as often as it is met; a slice's spare places count too). A statement '..UptoSaid' is the law's where the arguments, and the package variables that the reading takes, are together of bulk at most 1048576: NARROWER than '..Said'. Prove '..Said' where nothing that the law and all that it calls make is longer than what came in: it says more and counts as full. Else prove '..UptoSaid'. A law counts once. -/
mutual
def uptoBulk {H : Type} : DataW H → Nat
  | .lit (.string bytes) => bytes.length + 1
  | .lit _ => 1
  | .nil => 1
  | .ptr d => uptoBulk d + 1
  | .slice elems spare => uptoBulkAll elems + uptoBulkAll spare + 1
  | .agg parts => uptoBulkAll parts + 1
  | .iface _ d => uptoBulk d + 1
  | .map entries => uptoBulkEntries entries + 1
  | .held _ => 1
def uptoBulkAll {H : Type} : List (DataW H) → Nat
  | [] => 0
  | d :: r => uptoBulk d + uptoBulkAll r
def uptoBulkEntries {H : Type} : List (Lit × DataW H) → Nat
  | [] => 0
  | x :: r => uptoBulkEntry x + uptoBulkEntries r
def uptoBulkEntry {H : Type} : Lit × DataW H → Nat
  | (.string bytes, d) => bytes.length + uptoBulk d + 1
  | (_, d) => uptoBulk d + 1
 end
def uptoSmall : (H : Type) → List (DataW H) → Bool := fun _ ds => decide (uptoBulkAll ds ≤ 1048576)
def OpenSpec.upto (s : _root_.Go.ChangeSpec) : _root_.Go.OpenSpec := { _root_.Go.OpenSpec.ofChange s with cond := some uptoSmall }

/-- 'tontinelaw02.FloatSplits', WHERE WHAT IT READS IS OF BULK AT MOST 1048576: true; the input reads as it did. -/
def floatSplitsUptoRow : OpenClaim := { program := "ytlngkonmalallaa", sum := "f76c43654e5b366095c6f865f1dc37233c4e3c55918169078b5de94e4067044e", func := "tontine/tontinelaw02.FloatSplits", spec := "floatSplits", inPlace := ["math.Float64frombits", "math.Float64bits", "math.Float32frombits", "math.Float32bits"], apart := false, narrowed := true }
def FloatSplitsUptoSaid : Prop := floatSplitsUptoRow.holds Try.pinned (OpenSpec.upto floatSplitsSpec)

/-- 'tontinelaw02.FloatNarrows', WHERE WHAT IT READS IS OF BULK AT MOST 1048576: true; the input reads as it did. -/
def floatNarrowsUptoRow : OpenClaim := { program := "ytlngkonmalallaa", sum := "f76c43654e5b366095c6f865f1dc37233c4e3c55918169078b5de94e4067044e", func := "tontine/tontinelaw02.FloatNarrows", spec := "floatNarrows", inPlace := ["math.Float64frombits", "math.Float64bits", "math.Float32frombits", "math.Float32bits"], apart := false, narrowed := true }
def FloatNarrowsUptoSaid : Prop := floatNarrowsUptoRow.holds Try.pinned (OpenSpec.upto floatNarrowsSpec)

/-- 'tontinelaw02.FloatSteps', WHERE WHAT IT READS IS OF BULK AT MOST 1048576: true; the input reads as it did. -/
def floatStepsUptoRow : OpenClaim := { program := "ytlngkonmalallaa", sum := "f76c43654e5b366095c6f865f1dc37233c4e3c55918169078b5de94e4067044e", func := "tontine/tontinelaw02.FloatSteps", spec := "floatSteps", inPlace := ["math.Float64frombits", "math.Float64bits"], apart := false, narrowed := true }
def FloatStepsUptoSaid : Prop := floatStepsUptoRow.holds Try.pinned (OpenSpec.upto floatStepsSpec)

/-- 'tontinelaw02.FloatWholes', WHERE WHAT IT READS IS OF BULK AT MOST 1048576: true; the input reads as it did. -/
def floatWholesUptoRow : OpenClaim := { program := "ytlngkonmalallaa", sum := "f76c43654e5b366095c6f865f1dc37233c4e3c55918169078b5de94e4067044e", func := "tontine/tontinelaw02.FloatWholes", spec := "floatWholes", inPlace := ["math.Float64frombits", "math.Float64bits"], apart := false, narrowed := true }
def FloatWholesUptoSaid : Prop := floatWholesUptoRow.holds Try.pinned (OpenSpec.upto floatWholesSpec)

/-- 'tontinelaw05.SpanSets', WHERE WHAT IT READS IS OF BULK AT MOST 1048576: true; the input reads as it did. -/
def spanSetsUptoRow : OpenClaim := { program := "ytlngkonmalallaa", sum := "f76c43654e5b366095c6f865f1dc37233c4e3c55918169078b5de94e4067044e", func := "tontine/tontinelaw05.SpanSets", spec := "spanSets", inPlace := ["math.Float64bits", "math.Float64frombits"], apart := false, narrowed := true }
def SpanSetsUptoSaid : Prop := spanSetsUptoRow.holds Try.pinned (OpenSpec.upto spanSetsSpec)

end Rows
end Go.Proofs.Ytlngkonmalallaa
