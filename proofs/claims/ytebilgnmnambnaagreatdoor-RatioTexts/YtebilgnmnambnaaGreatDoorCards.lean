/-
  DERIVED. GIVEN WITH THE SEED: THE CARDS: each row of YtebilgnmnambnaaGreatDoorRows.lean that lists a variable, with what it lists TIED to the program's text (the seventh form; the later family's looks); each row that meets fmt, with fmt's text TOLD by the authors' own Lean function (tested against real Go, not proved from fmt's source: count such statements apart). THE CARD IS WHAT COUNTS. Prove the row's statement (the work); the ties are given (YtebilgnmnambnaaGreatDoorTie.lean); close each card by the builder's one call (the guide's Derived/Test/ToyasCard.lean, 'card_holds'). Laid BY PROGRAM, IN A SANDBOX (cutbox-door.mjs). By AI agents, Wed Nov 11 2026. No macro, syntax, notation, axiom, sorry.
-/
import Derived.Test.YtebilgnmnambnaaGreatDoorRows
import GoSem.ClaimSeven
namespace Go.Proofs.YtebilgnmnambnaaGreatDoor
namespace Rows

/-- THE TIED CARD OF 'tontinelaw01.RatioPowers'. -/
def ratioPowersCard : Claim7 := { stood := { row := ratioPowersRow, standIns := [], harness := (true, "8e4901ed0fdc231b4569015f63121ec16f9f116a8d1d9a540bd8fa8fbdec17cf"), looks := true }, kinds := [], alts := [], laidByText := true, laidKinds := [.data, .data, .data, .data, .sentinel, .sentinel, .pinned], laidTests := true, laidLooks := .later }
def RatioPowersCardSaid : Prop := Claim7.holds Tryz.pinned (.plain (OpenSpec.ofChange ratioPowersSpec)) ratioPowersCard

/-- THE TIED CARD OF 'tontinelaw01.RatioRounds'. -/
def ratioRoundsCard : Claim7 := { stood := { row := ratioRoundsRow, standIns := [], harness := (true, "8e4901ed0fdc231b4569015f63121ec16f9f116a8d1d9a540bd8fa8fbdec17cf"), looks := true }, kinds := [], alts := [], laidByText := true, laidKinds := [.data, .data, .data, .data, .sentinel, .sentinel, .pinned], laidTests := true, laidLooks := .later }
def RatioRoundsCardSaid : Prop := Claim7.holds Tryz.pinned (.plain (OpenSpec.ofChange ratioRoundsSpec)) ratioRoundsCard

/-- THE TIED CARD OF 'tontinelaw01.RatioTexts'. -/
def ratioTextsCard : Claim7 := { stood := { row := ratioTextsRow, standIns := [], harness := (true, "8e4901ed0fdc231b4569015f63121ec16f9f116a8d1d9a540bd8fa8fbdec17cf"), looks := true }, kinds := [], alts := [], laidByText := true, laidKinds := [.data, .data, .data, .data, .sentinel, .sentinel, .pinned], laidTests := true, laidLooks := .later }
def RatioTextsCardSaid : Prop := Claim7.holds Tryz.pinned (.plain (OpenSpec.ofChange ratioTextsSpec)) ratioTextsCard

/-- THE TIED CARD OF 'tontinelaw01.RatioSimple'. -/
def ratioSimpleCard : Claim7 := { stood := { row := ratioSimpleRow, standIns := [], harness := (true, "8e4901ed0fdc231b4569015f63121ec16f9f116a8d1d9a540bd8fa8fbdec17cf"), looks := true }, kinds := [], alts := [], laidByText := true, laidKinds := [.data, .data, .data, .data, .sentinel, .sentinel, .pinned], laidTests := true, laidLooks := .later }
def RatioSimpleCardSaid : Prop := Claim7.holds Tryz.pinned (.plain (OpenSpec.ofChange ratioSimpleSpec)) ratioSimpleCard

/-- THE TIED CARD OF 'tontinelaw08.InterestTurns'. -/
def interestTurnsCard : Claim7 := { stood := { row := interestTurnsRow, standIns := [], harness := (true, "8e4901ed0fdc231b4569015f63121ec16f9f116a8d1d9a540bd8fa8fbdec17cf"), looks := true }, kinds := [], alts := [], laidByText := true, laidKinds := [.data, .data, .data, .data, .sentinel, .sentinel, .pinned], laidTests := true, laidLooks := .later }
def InterestTurnsCardSaid : Prop := Claim7.holds Tryz.pinned (.plain (OpenSpec.ofChange interestTurnsSpec)) interestTurnsCard

/-- THE SECOND FORM's CARD OF 'tontinelaw01.RatioPowers'. -/
def ratioPowersUptoCard : Claim7 := { stood := { row := ratioPowersUptoRow, standIns := [], harness := (true, "8e4901ed0fdc231b4569015f63121ec16f9f116a8d1d9a540bd8fa8fbdec17cf"), looks := true }, kinds := [], alts := [], laidByText := true, laidKinds := [.data, .data, .data, .data, .sentinel, .sentinel, .pinned], laidTests := true, laidLooks := .later }
def RatioPowersUptoCardSaid : Prop := Claim7.holds Tryz.pinned (.plain (OpenSpec.upto ratioPowersSpec)) ratioPowersUptoCard

/-- THE SECOND FORM's CARD OF 'tontinelaw01.RatioRounds'. -/
def ratioRoundsUptoCard : Claim7 := { stood := { row := ratioRoundsUptoRow, standIns := [], harness := (true, "8e4901ed0fdc231b4569015f63121ec16f9f116a8d1d9a540bd8fa8fbdec17cf"), looks := true }, kinds := [], alts := [], laidByText := true, laidKinds := [.data, .data, .data, .data, .sentinel, .sentinel, .pinned], laidTests := true, laidLooks := .later }
def RatioRoundsUptoCardSaid : Prop := Claim7.holds Tryz.pinned (.plain (OpenSpec.upto ratioRoundsSpec)) ratioRoundsUptoCard

/-- THE SECOND FORM's CARD OF 'tontinelaw01.RatioTexts'. -/
def ratioTextsUptoCard : Claim7 := { stood := { row := ratioTextsUptoRow, standIns := [], harness := (true, "8e4901ed0fdc231b4569015f63121ec16f9f116a8d1d9a540bd8fa8fbdec17cf"), looks := true }, kinds := [], alts := [], laidByText := true, laidKinds := [.data, .data, .data, .data, .sentinel, .sentinel, .pinned], laidTests := true, laidLooks := .later }
def RatioTextsUptoCardSaid : Prop := Claim7.holds Tryz.pinned (.plain (OpenSpec.upto ratioTextsSpec)) ratioTextsUptoCard

/-- THE SECOND FORM's CARD OF 'tontinelaw01.RatioSimple'. -/
def ratioSimpleUptoCard : Claim7 := { stood := { row := ratioSimpleUptoRow, standIns := [], harness := (true, "8e4901ed0fdc231b4569015f63121ec16f9f116a8d1d9a540bd8fa8fbdec17cf"), looks := true }, kinds := [], alts := [], laidByText := true, laidKinds := [.data, .data, .data, .data, .sentinel, .sentinel, .pinned], laidTests := true, laidLooks := .later }
def RatioSimpleUptoCardSaid : Prop := Claim7.holds Tryz.pinned (.plain (OpenSpec.upto ratioSimpleSpec)) ratioSimpleUptoCard

/-- THE SECOND FORM's CARD OF 'tontinelaw08.InterestTurns'. -/
def interestTurnsUptoCard : Claim7 := { stood := { row := interestTurnsUptoRow, standIns := [], harness := (true, "8e4901ed0fdc231b4569015f63121ec16f9f116a8d1d9a540bd8fa8fbdec17cf"), looks := true }, kinds := [], alts := [], laidByText := true, laidKinds := [.data, .data, .data, .data, .sentinel, .sentinel, .pinned], laidTests := true, laidLooks := .later }
def InterestTurnsUptoCardSaid : Prop := Claim7.holds Tryz.pinned (.plain (OpenSpec.upto interestTurnsSpec)) interestTurnsUptoCard
end Rows
end Go.Proofs.YtebilgnmnambnaaGreatDoor
