/-
  DERIVED. GIVEN WITH THE SEED: THE CARDS: each row of YtfalncbcomlelaaGreatDoorRows.lean that lists a variable, with what it lists TIED to the program's text (the seventh form; the later family's looks); each row that meets fmt, with fmt's text TOLD by the authors' own Lean function (tested against real Go, not proved from fmt's source: count such statements apart). THE CARD IS WHAT COUNTS. Prove the row's statement (the work); the ties are given (YtfalncbcomlelaaGreatDoorTie.lean); close each card by the builder's one call (the guide's Derived/Test/ToyasCard.lean, 'card_holds'). Laid BY PROGRAM, IN A SANDBOX (cutbox-door.mjs). By AI agents, Wed Nov 11 2026. No macro, syntax, notation, axiom, sorry.
-/
import Derived.Test.YtfalncbcomlelaaGreatDoorRows
import GoSem.ClaimSeven
namespace Go.Proofs.YtfalncbcomlelaaGreatDoor
namespace Rows

/-- THE TIED CARD OF 'tontinelaw01.RatioReckons'. -/
def ratioReckonsCard : Claim7 := { stood := { row := ratioReckonsRow, standIns := [], harness := (true, "ef3fad3f1231fd5105dcf4d1f63e9c2dd821dbbfac89f5d9646491e94b4c6039"), looks := true }, kinds := [], alts := [], laidByText := true, laidKinds := [.data, .data, .data, .data, .sentinel, .sentinel, .pinned], laidTests := true, laidLooks := .later }
def RatioReckonsCardSaid : Prop := Claim7.holds Tryz.pinned (.plain (OpenSpec.ofChange ratioReckonsSpec)) ratioReckonsCard

/-- THE TIED CARD OF 'tontinelaw09.TableExpects'. -/
def tableExpectsCard : Claim7 := { stood := { row := tableExpectsRow, standIns := [], harness := (true, "ef3fad3f1231fd5105dcf4d1f63e9c2dd821dbbfac89f5d9646491e94b4c6039"), looks := true }, kinds := [], alts := [], laidByText := true, laidKinds := [.data, .data, .data, .data, .pinned], laidTests := true, laidLooks := .later }
def TableExpectsCardSaid : Prop := Claim7.holds Tryz.pinned (.plain (OpenSpec.ofChange tableExpectsSpec)) tableExpectsCard

/-- THE SECOND FORM's CARD OF 'tontinelaw01.RatioReckons'. -/
def ratioReckonsUptoCard : Claim7 := { stood := { row := ratioReckonsUptoRow, standIns := [], harness := (true, "ef3fad3f1231fd5105dcf4d1f63e9c2dd821dbbfac89f5d9646491e94b4c6039"), looks := true }, kinds := [], alts := [], laidByText := true, laidKinds := [.data, .data, .data, .data, .sentinel, .sentinel, .pinned], laidTests := true, laidLooks := .later }
def RatioReckonsUptoCardSaid : Prop := Claim7.holds Tryz.pinned (.plain (OpenSpec.upto ratioReckonsSpec)) ratioReckonsUptoCard

/-- THE SECOND FORM's CARD OF 'tontinelaw09.TableExpects'. -/
def tableExpectsUptoCard : Claim7 := { stood := { row := tableExpectsUptoRow, standIns := [], harness := (true, "ef3fad3f1231fd5105dcf4d1f63e9c2dd821dbbfac89f5d9646491e94b4c6039"), looks := true }, kinds := [], alts := [], laidByText := true, laidKinds := [.data, .data, .data, .data, .pinned], laidTests := true, laidLooks := .later }
def TableExpectsUptoCardSaid : Prop := Claim7.holds Tryz.pinned (.plain (OpenSpec.upto tableExpectsSpec)) tableExpectsUptoCard
end Rows
end Go.Proofs.YtfalncbcomlelaaGreatDoor
