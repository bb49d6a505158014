/-
  DERIVED. GIVEN WITH THE SEED: THE CARDS: each row of YtiobnojcmeeikaaGreatDoorRows.lean that lists a variable, with what it lists TIED to the program's text (the seventh form; the later family's looks); each row that meets fmt, with fmt's text TOLD by the authors' own Lean function (tested against real Go, not proved from fmt's source: count such statements apart). THE CARD IS WHAT COUNTS. Prove the row's statement (the work); the ties are given (YtiobnojcmeeikaaGreatDoorTie.lean); close each card by the builder's one call (the guide's Derived/Test/ToyasCard.lean, 'card_holds'). Laid BY PROGRAM, IN A SANDBOX (cutbox-door.mjs). By AI agents, Wed Nov 11 2026. No macro, syntax, notation, axiom, sorry.
-/
import Derived.Test.YtiobnojcmeeikaaGreatDoorRows
import GoSem.ClaimSeven
namespace Go.Proofs.YtiobnojcmeeikaaGreatDoor
namespace Rows

/-- THE TIED CARD OF 'tontinelaw02.FloatExacts'. -/
def floatExactsCard : Claim7 := { stood := { row := floatExactsRow, standIns := [], harness := (true, "5df87e61ba9a7a712258fa7d3b5a4e30b90f7c33449f4afe757cf6a4a9f4f1d7"), looks := false }, kinds := [], alts := [], laidByText := true, laidKinds := [.data, .data, .data, .data, .pinned], laidTests := true, laidLooks := .later }
def FloatExactsCardSaid : Prop := Claim7.holds Tryz.pinned (.plain (OpenSpec.ofChange floatExactsSpec)) floatExactsCard

/-- THE SECOND FORM's CARD OF 'tontinelaw02.FloatExacts'. -/
def floatExactsUptoCard : Claim7 := { stood := { row := floatExactsUptoRow, standIns := [], harness := (true, "5df87e61ba9a7a712258fa7d3b5a4e30b90f7c33449f4afe757cf6a4a9f4f1d7"), looks := false }, kinds := [], alts := [], laidByText := true, laidKinds := [.data, .data, .data, .data, .pinned], laidTests := true, laidLooks := .later }
def FloatExactsUptoCardSaid : Prop := Claim7.holds Tryz.pinned (.plain (OpenSpec.upto floatExactsSpec)) floatExactsUptoCard
end Rows
end Go.Proofs.YtiobnojcmeeikaaGreatDoor
