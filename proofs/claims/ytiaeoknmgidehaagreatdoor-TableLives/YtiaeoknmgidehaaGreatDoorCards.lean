/-
  DERIVED. GIVEN WITH THE SEED: THE CARDS: each row of YtiaeoknmgidehaaGreatDoorRows.lean that lists a variable, with what it lists TIED to the program's text (the seventh form; the later family's looks); each row that meets fmt, with fmt's text TOLD by the authors' own Lean function (tested against real Go, not proved from fmt's source: count such statements apart). THE CARD IS WHAT COUNTS. Prove the row's statement (the work); the ties are given (YtiaeoknmgidehaaGreatDoorTie.lean); close each card by the builder's one call (the guide's Derived/Test/ToyasCard.lean, 'card_holds'). Laid BY PROGRAM, IN A SANDBOX (cutbox-door.mjs). By AI agents, Wed Nov 11 2026. No macro, syntax, notation, axiom, sorry.
-/
import Derived.Test.YtiaeoknmgidehaaGreatDoorRows
import GoSem.ClaimSeven
namespace Go.Proofs.YtiaeoknmgidehaaGreatDoor
namespace Rows

/-- THE TIED CARD OF 'tontinelaw08.InterestGrows'. -/
def interestGrowsCard : Claim7 := { stood := { row := interestGrowsRow, standIns := [], harness := (true, "91fb913d9b0370cb95cd64b7c602c79285909f526856622b8ee06df59c49419b"), looks := false }, kinds := [], alts := [], laidByText := true, laidKinds := [.data, .data, .data, .data, .pinned], laidTests := true, laidLooks := .later }
def InterestGrowsCardSaid : Prop := Claim7.holds Tryz.pinned (.plain (OpenSpec.ofChange interestGrowsSpec)) interestGrowsCard

/-- THE TIED CARD OF 'tontinelaw08.InterestCertain'. -/
def interestCertainCard : Claim7 := { stood := { row := interestCertainRow, standIns := [], harness := (true, "91fb913d9b0370cb95cd64b7c602c79285909f526856622b8ee06df59c49419b"), looks := false }, kinds := [], alts := [], laidByText := true, laidKinds := [.data, .data, .data, .data, .pinned], laidTests := true, laidLooks := .later }
def InterestCertainCardSaid : Prop := Claim7.holds Tryz.pinned (.plain (OpenSpec.ofChange interestCertainSpec)) interestCertainCard

/-- THE TIED CARD OF 'tontinelaw08.InterestGuards'. -/
def interestGuardsCard : Claim7 := { stood := { row := interestGuardsRow, standIns := [], harness := (true, "91fb913d9b0370cb95cd64b7c602c79285909f526856622b8ee06df59c49419b"), looks := false }, kinds := [], alts := [], laidByText := true, laidKinds := [.data, .data, .data, .data, .pinned], laidTests := true, laidLooks := .later }
def InterestGuardsCardSaid : Prop := Claim7.holds Tryz.pinned (.plain (OpenSpec.ofChange interestGuardsSpec)) interestGuardsCard

/-- THE TIED CARD OF 'tontinelaw09.TableLives'. -/
def tableLivesCard : Claim7 := { stood := { row := tableLivesRow, standIns := [], harness := (true, "91fb913d9b0370cb95cd64b7c602c79285909f526856622b8ee06df59c49419b"), looks := false }, kinds := [], alts := [], laidByText := true, laidKinds := [.data, .data, .data, .data, .pinned], laidTests := true, laidLooks := .later }
def TableLivesCardSaid : Prop := Claim7.holds Tryz.pinned (.plain (OpenSpec.ofChange tableLivesSpec)) tableLivesCard

/-- THE SECOND FORM's CARD OF 'tontinelaw08.InterestGrows'. -/
def interestGrowsUptoCard : Claim7 := { stood := { row := interestGrowsUptoRow, standIns := [], harness := (true, "91fb913d9b0370cb95cd64b7c602c79285909f526856622b8ee06df59c49419b"), looks := false }, kinds := [], alts := [], laidByText := true, laidKinds := [.data, .data, .data, .data, .pinned], laidTests := true, laidLooks := .later }
def InterestGrowsUptoCardSaid : Prop := Claim7.holds Tryz.pinned (.plain (OpenSpec.upto interestGrowsSpec)) interestGrowsUptoCard

/-- THE SECOND FORM's CARD OF 'tontinelaw08.InterestCertain'. -/
def interestCertainUptoCard : Claim7 := { stood := { row := interestCertainUptoRow, standIns := [], harness := (true, "91fb913d9b0370cb95cd64b7c602c79285909f526856622b8ee06df59c49419b"), looks := false }, kinds := [], alts := [], laidByText := true, laidKinds := [.data, .data, .data, .data, .pinned], laidTests := true, laidLooks := .later }
def InterestCertainUptoCardSaid : Prop := Claim7.holds Tryz.pinned (.plain (OpenSpec.upto interestCertainSpec)) interestCertainUptoCard

/-- THE SECOND FORM's CARD OF 'tontinelaw08.InterestGuards'. -/
def interestGuardsUptoCard : Claim7 := { stood := { row := interestGuardsUptoRow, standIns := [], harness := (true, "91fb913d9b0370cb95cd64b7c602c79285909f526856622b8ee06df59c49419b"), looks := false }, kinds := [], alts := [], laidByText := true, laidKinds := [.data, .data, .data, .data, .pinned], laidTests := true, laidLooks := .later }
def InterestGuardsUptoCardSaid : Prop := Claim7.holds Tryz.pinned (.plain (OpenSpec.upto interestGuardsSpec)) interestGuardsUptoCard

/-- THE SECOND FORM's CARD OF 'tontinelaw09.TableLives'. -/
def tableLivesUptoCard : Claim7 := { stood := { row := tableLivesUptoRow, standIns := [], harness := (true, "91fb913d9b0370cb95cd64b7c602c79285909f526856622b8ee06df59c49419b"), looks := false }, kinds := [], alts := [], laidByText := true, laidKinds := [.data, .data, .data, .data, .pinned], laidTests := true, laidLooks := .later }
def TableLivesUptoCardSaid : Prop := Claim7.holds Tryz.pinned (.plain (OpenSpec.upto tableLivesSpec)) tableLivesUptoCard
end Rows
end Go.Proofs.YtiaeoknmgidehaaGreatDoor
