/-
  DERIVED. GIVEN WITH THE SEED: THE CARDS: each row of YtohdbpnkenoclabDoorRows.lean that lists a variable, with what it lists TIED to the program's text (the seventh form; the later family's looks); each row that meets fmt, with fmt's text TOLD by the authors' own Lean function (tested against real Go, not proved from fmt's source: count such statements apart). THE CARD IS WHAT COUNTS. Prove the row's statement (the work); the ties are given (YtohdbpnkenoclabDoorTie.lean); close each card by the builder's one call (the guide's Derived/Test/ToyasCard.lean, 'card_holds'). Laid BY PROGRAM, IN A SANDBOX (cutbox-door.mjs). By AI agents, Wed Nov 11 2026. No macro, syntax, notation, axiom, sorry.
-/
import Derived.Test.YtohdbpnkenoclabDoorRows
import GoSem.ClaimSeven
namespace Go.Proofs.YtohdbpnkenoclabDoor
namespace Rows

/-- THE TIED CARD OF 'tontinelaw07.DayOlder'. -/
def dayOlderCard : Claim7 := { stood := { row := dayOlderRow, standIns := [], harness := (true, "2dea10d16759ae708d0c2778da6f6d754faade53b7fa8f99d4e37582fa0c067a"), looks := false }, kinds := [], alts := [], laidByText := true, laidKinds := [.data], laidTests := true, laidLooks := .later }
def DayOlderCardSaid : Prop := Claim7.holds Tryd.pinned (.plain (OpenSpec.ofChange dayOlderSpec)) dayOlderCard

/-- THE TIED CARD OF 'tontinelaw07.DayDues'. -/
def dayDuesCard : Claim7 := { stood := { row := dayDuesRow, standIns := [], harness := (true, "2dea10d16759ae708d0c2778da6f6d754faade53b7fa8f99d4e37582fa0c067a"), looks := false }, kinds := [], alts := [], laidByText := true, laidKinds := [.data], laidTests := true, laidLooks := .later }
def DayDuesCardSaid : Prop := Claim7.holds Tryd.pinned (.plain (OpenSpec.ofChange dayDuesSpec)) dayDuesCard

/-- THE SECOND FORM's CARD OF 'tontinelaw07.DayOlder'. -/
def dayOlderUptoCard : Claim7 := { stood := { row := dayOlderUptoRow, standIns := [], harness := (true, "2dea10d16759ae708d0c2778da6f6d754faade53b7fa8f99d4e37582fa0c067a"), looks := false }, kinds := [], alts := [], laidByText := true, laidKinds := [.data], laidTests := true, laidLooks := .later }
def DayOlderUptoCardSaid : Prop := Claim7.holds Tryd.pinned (.plain (OpenSpec.upto dayOlderSpec)) dayOlderUptoCard

/-- THE SECOND FORM's CARD OF 'tontinelaw07.DayDues'. -/
def dayDuesUptoCard : Claim7 := { stood := { row := dayDuesUptoRow, standIns := [], harness := (true, "2dea10d16759ae708d0c2778da6f6d754faade53b7fa8f99d4e37582fa0c067a"), looks := false }, kinds := [], alts := [], laidByText := true, laidKinds := [.data], laidTests := true, laidLooks := .later }
def DayDuesUptoCardSaid : Prop := Claim7.holds Tryd.pinned (.plain (OpenSpec.upto dayDuesSpec)) dayDuesUptoCard
end Rows
end Go.Proofs.YtohdbpnkenoclabDoor
