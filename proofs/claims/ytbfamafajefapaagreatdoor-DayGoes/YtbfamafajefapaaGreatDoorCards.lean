/-
  DERIVED. GIVEN WITH THE SEED: THE CARDS: each row of YtbfamafajefapaaGreatDoorRows.lean that lists a variable, with what it lists TIED to the program's text (the seventh form; the later family's looks); each row that meets fmt, with fmt's text TOLD by the authors' own Lean function (tested against real Go, not proved from fmt's source: count such statements apart). THE CARD IS WHAT COUNTS. Prove the row's statement (the work); the ties are given (YtbfamafajefapaaGreatDoorTie.lean); close each card by the builder's one call (the guide's Derived/Test/ToyasCard.lean, 'card_holds'). Laid BY PROGRAM, IN A SANDBOX (cutbox-door.mjs). By AI agents, Wed Nov 11 2026. No macro, syntax, notation, axiom, sorry.
-/
import Derived.Test.YtbfamafajefapaaGreatDoorRows
import GoSem.ClaimSeven
namespace Go.Proofs.YtbfamafajefapaaGreatDoor
namespace Rows

/-- THE TIED CARD OF 'tontinelaw06.MoneyRounds'. -/
def moneyRoundsCard : Claim7 := { stood := { row := moneyRoundsRow, standIns := [], harness := (true, "1c6bd5f9b9b049f9611d15905681e7b6f0f3e541a1f6f97156ee4a8cdffbdc78"), looks := true }, kinds := [], alts := [], laidByText := true, laidKinds := [.data, .data, .data, .sentinel, .sentinel], laidTests := true, laidLooks := .later }
def MoneyRoundsCardSaid : Prop := Claim7.holds Tryz.pinned (.plain (OpenSpec.ofChange moneyRoundsSpec)) moneyRoundsCard

/-- THE TIED CARD OF 'tontinelaw07.DayGoes'. -/
def dayGoesCard : Claim7 := { stood := { row := dayGoesRow, standIns := [], harness := (true, "1c6bd5f9b9b049f9611d15905681e7b6f0f3e541a1f6f97156ee4a8cdffbdc78"), looks := true }, kinds := [], alts := [], laidByText := true, laidKinds := [.data, .data, .data, .data, .sentinel, .sentinel, .data, .pinned], laidTests := true, laidLooks := .later }
def DayGoesCardSaid : Prop := Claim7.holds Tryz.pinned (.plain (OpenSpec.ofChange dayGoesSpec)) dayGoesCard

/-- THE TIED CARD OF 'tontinelaw08.InterestGuards'. -/
def interestGuardsCard : Claim7 := { stood := { row := interestGuardsRow, standIns := [], harness := (true, "1c6bd5f9b9b049f9611d15905681e7b6f0f3e541a1f6f97156ee4a8cdffbdc78"), looks := true }, kinds := [], alts := [], laidByText := true, laidKinds := [.data, .data, .data, .data, .pinned], laidTests := true, laidLooks := .later }
def InterestGuardsCardSaid : Prop := Claim7.holds Tryz.pinned (.plain (OpenSpec.ofChange interestGuardsSpec)) interestGuardsCard

/-- THE TIED CARD OF 'tontinelaw09.TableLives'. -/
def tableLivesCard : Claim7 := { stood := { row := tableLivesRow, standIns := [], harness := (true, "1c6bd5f9b9b049f9611d15905681e7b6f0f3e541a1f6f97156ee4a8cdffbdc78"), looks := true }, kinds := [], alts := [], laidByText := true, laidKinds := [.data, .data, .data, .data, .pinned], laidTests := true, laidLooks := .later }
def TableLivesCardSaid : Prop := Claim7.holds Tryz.pinned (.plain (OpenSpec.ofChange tableLivesSpec)) tableLivesCard

/-- THE SECOND FORM's CARD OF 'tontinelaw06.MoneyRounds'. -/
def moneyRoundsUptoCard : Claim7 := { stood := { row := moneyRoundsUptoRow, standIns := [], harness := (true, "1c6bd5f9b9b049f9611d15905681e7b6f0f3e541a1f6f97156ee4a8cdffbdc78"), looks := true }, kinds := [], alts := [], laidByText := true, laidKinds := [.data, .data, .data, .sentinel, .sentinel], laidTests := true, laidLooks := .later }
def MoneyRoundsUptoCardSaid : Prop := Claim7.holds Tryz.pinned (.plain (OpenSpec.upto moneyRoundsSpec)) moneyRoundsUptoCard

/-- THE SECOND FORM's CARD OF 'tontinelaw07.DayGoes'. -/
def dayGoesUptoCard : Claim7 := { stood := { row := dayGoesUptoRow, standIns := [], harness := (true, "1c6bd5f9b9b049f9611d15905681e7b6f0f3e541a1f6f97156ee4a8cdffbdc78"), looks := true }, kinds := [], alts := [], laidByText := true, laidKinds := [.data, .data, .data, .data, .sentinel, .sentinel, .data, .pinned], laidTests := true, laidLooks := .later }
def DayGoesUptoCardSaid : Prop := Claim7.holds Tryz.pinned (.plain (OpenSpec.upto dayGoesSpec)) dayGoesUptoCard

/-- THE SECOND FORM's CARD OF 'tontinelaw08.InterestGuards'. -/
def interestGuardsUptoCard : Claim7 := { stood := { row := interestGuardsUptoRow, standIns := [], harness := (true, "1c6bd5f9b9b049f9611d15905681e7b6f0f3e541a1f6f97156ee4a8cdffbdc78"), looks := true }, kinds := [], alts := [], laidByText := true, laidKinds := [.data, .data, .data, .data, .pinned], laidTests := true, laidLooks := .later }
def InterestGuardsUptoCardSaid : Prop := Claim7.holds Tryz.pinned (.plain (OpenSpec.upto interestGuardsSpec)) interestGuardsUptoCard

/-- THE SECOND FORM's CARD OF 'tontinelaw09.TableLives'. -/
def tableLivesUptoCard : Claim7 := { stood := { row := tableLivesUptoRow, standIns := [], harness := (true, "1c6bd5f9b9b049f9611d15905681e7b6f0f3e541a1f6f97156ee4a8cdffbdc78"), looks := true }, kinds := [], alts := [], laidByText := true, laidKinds := [.data, .data, .data, .data, .pinned], laidTests := true, laidLooks := .later }
def TableLivesUptoCardSaid : Prop := Claim7.holds Tryz.pinned (.plain (OpenSpec.upto tableLivesSpec)) tableLivesUptoCard
end Rows
end Go.Proofs.YtbfamafajefapaaGreatDoor
