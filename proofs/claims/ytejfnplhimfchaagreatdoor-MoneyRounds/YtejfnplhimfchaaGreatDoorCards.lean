/-
  DERIVED. GIVEN WITH THE SEED: THE CARDS: each row of YtejfnplhimfchaaGreatDoorRows.lean that lists a variable, with what it lists TIED to the program's text (the seventh form; the later family's looks); each row that meets fmt, with fmt's text TOLD by the authors' own Lean function (tested against real Go, not proved from fmt's source: count such statements apart). THE CARD IS WHAT COUNTS. Prove the row's statement (the work); the ties are given (YtejfnplhimfchaaGreatDoorTie.lean); close each card by the builder's one call (the guide's Derived/Test/ToyasCard.lean, 'card_holds'). Laid BY PROGRAM, IN A SANDBOX (cutbox-door.mjs). By AI agents, Wed Nov 11 2026. No macro, syntax, notation, axiom, sorry.
-/
import Derived.Test.YtejfnplhimfchaaGreatDoorRows
import GoSem.ClaimSeven
namespace Go.Proofs.YtejfnplhimfchaaGreatDoor
namespace Rows

/-- THE TIED CARD OF 'tontinelaw06.MoneyRounds'. -/
def moneyRoundsCard : Claim7 := { stood := { row := moneyRoundsRow, standIns := [], harness := (true, "e4895ffa4b1c6013ee9cfdc457b21f313eaed4b5823e5bf70542156c16d437ac"), looks := true }, kinds := [], alts := [], laidByText := true, laidKinds := [.data, .data, .data, .sentinel, .sentinel], laidTests := true, laidLooks := .later }
def MoneyRoundsCardSaid : Prop := Claim7.holds Tryz.pinned (.plain (OpenSpec.ofChange moneyRoundsSpec)) moneyRoundsCard

/-- THE SECOND FORM's CARD OF 'tontinelaw06.MoneyRounds'. -/
def moneyRoundsUptoCard : Claim7 := { stood := { row := moneyRoundsUptoRow, standIns := [], harness := (true, "e4895ffa4b1c6013ee9cfdc457b21f313eaed4b5823e5bf70542156c16d437ac"), looks := true }, kinds := [], alts := [], laidByText := true, laidKinds := [.data, .data, .data, .sentinel, .sentinel], laidTests := true, laidLooks := .later }
def MoneyRoundsUptoCardSaid : Prop := Claim7.holds Tryz.pinned (.plain (OpenSpec.upto moneyRoundsSpec)) moneyRoundsUptoCard
end Rows
end Go.Proofs.YtejfnplhimfchaaGreatDoor
