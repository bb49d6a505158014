/-
  DERIVED. GIVEN WITH THE SEED: THE CARDS: each row of YtpmgbmafibkgnaaGreatDoorRows.lean that lists a variable, with what it lists TIED to the program's text (the seventh form; the later family's looks); each row that meets fmt, with fmt's text TOLD by the authors' own Lean function (tested against real Go, not proved from fmt's source: count such statements apart). THE CARD IS WHAT COUNTS. Prove the row's statement (the work); the ties are given (YtpmgbmafibkgnaaGreatDoorTie.lean); close each card by the builder's one call (the guide's Derived/Test/ToyasCard.lean, 'card_holds'). Laid BY PROGRAM, IN A SANDBOX (cutbox-door.mjs). By AI agents, Wed Nov 11 2026. No macro, syntax, notation, axiom, sorry.
-/
import Derived.Test.YtpmgbmafibkgnaaGreatDoorRows
import GoSem.ClaimSeven
namespace Go.Proofs.YtpmgbmafibkgnaaGreatDoor
namespace Rows

/-- THE TIED CARD OF 'tontinelaw01.RatioSimplest'. -/
def ratioSimplestCard : Claim7 := { stood := { row := ratioSimplestRow, standIns := [], harness := (true, "a1b97fc775bfee8c3a03a9f9dda84c28cab34618265fa660cd5b9e7fd3a68209"), looks := true }, kinds := [], alts := [], laidByText := true, laidKinds := [.data, .data, .data, .data, .sentinel, .sentinel, .pinned], laidTests := true, laidLooks := .later }
def RatioSimplestCardSaid : Prop := Claim7.holds Tryz.pinned (.plain (OpenSpec.ofChange ratioSimplestSpec)) ratioSimplestCard

/-- THE SECOND FORM's CARD OF 'tontinelaw01.RatioSimplest'. -/
def ratioSimplestUptoCard : Claim7 := { stood := { row := ratioSimplestUptoRow, standIns := [], harness := (true, "a1b97fc775bfee8c3a03a9f9dda84c28cab34618265fa660cd5b9e7fd3a68209"), looks := true }, kinds := [], alts := [], laidByText := true, laidKinds := [.data, .data, .data, .data, .sentinel, .sentinel, .pinned], laidTests := true, laidLooks := .later }
def RatioSimplestUptoCardSaid : Prop := Claim7.holds Tryz.pinned (.plain (OpenSpec.upto ratioSimplestSpec)) ratioSimplestUptoCard
end Rows
end Go.Proofs.YtpmgbmafibkgnaaGreatDoor
