/-
  DERIVED. GIVEN WITH THE SEED: THE CARDS: each row of YtohdbpnkenoclaaDoorRows.lean that lists a variable, with what it lists TIED to the program's text (the seventh form; the later family's looks); each row that meets fmt, with fmt's text TOLD by the authors' own Lean function (tested against real Go, not proved from fmt's source: count such statements apart). THE CARD IS WHAT COUNTS. Prove the row's statement (the work); the ties are given (YtohdbpnkenoclaaDoorTie.lean); close each card by the builder's one call (the guide's Derived/Test/ToyasCard.lean, 'card_holds'). Laid BY PROGRAM, IN A SANDBOX (cutbox-door.mjs). By AI agents, Wed Nov 11 2026. No macro, syntax, notation, axiom, sorry.
-/
import Derived.Test.YtohdbpnkenoclaaDoorRows
import GoSem.ClaimSeven
namespace Go.Proofs.YtohdbpnkenoclaaDoor
namespace Rows

/-- THE TIED CARD OF 'tontinelaw07.DayYears'. -/
def dayYearsCard : Claim7 := { stood := { row := dayYearsRow, standIns := [], harness := (true, "9fccd2a3e89cdd9d826d0173cb262a5221d391c083edf4878a2ce8159edaa0c5"), looks := false }, kinds := [], alts := [], laidByText := true, laidKinds := [.data], laidTests := true, laidLooks := .later }
def DayYearsCardSaid : Prop := Claim7.holds Tryd.pinned (.plain (OpenSpec.ofChange dayYearsSpec)) dayYearsCard

/-- THE TIED CARD OF 'tontinelaw07.DayNumbers'. -/
def dayNumbersCard : Claim7 := { stood := { row := dayNumbersRow, standIns := [], harness := (true, "9fccd2a3e89cdd9d826d0173cb262a5221d391c083edf4878a2ce8159edaa0c5"), looks := false }, kinds := [], alts := [], laidByText := true, laidKinds := [.data], laidTests := true, laidLooks := .later }
def DayNumbersCardSaid : Prop := Claim7.holds Tryd.pinned (.plain (OpenSpec.ofChange dayNumbersSpec)) dayNumbersCard

/-- THE TIED CARD OF 'tontinelaw07.DayMoves'. -/
def dayMovesCard : Claim7 := { stood := { row := dayMovesRow, standIns := [], harness := (true, "9fccd2a3e89cdd9d826d0173cb262a5221d391c083edf4878a2ce8159edaa0c5"), looks := false }, kinds := [], alts := [], laidByText := true, laidKinds := [.data], laidTests := true, laidLooks := .later }
def DayMovesCardSaid : Prop := Claim7.holds Tryd.pinned (.plain (OpenSpec.ofChange dayMovesSpec)) dayMovesCard

/-- THE TIED CARD OF 'tontinelaw07.DayAges'. -/
def dayAgesCard : Claim7 := { stood := { row := dayAgesRow, standIns := [], harness := (true, "9fccd2a3e89cdd9d826d0173cb262a5221d391c083edf4878a2ce8159edaa0c5"), looks := false }, kinds := [], alts := [], laidByText := true, laidKinds := [.data], laidTests := true, laidLooks := .later }
def DayAgesCardSaid : Prop := Claim7.holds Tryd.pinned (.plain (OpenSpec.ofChange dayAgesSpec)) dayAgesCard

/-- THE TIED CARD OF 'tontinelaw07.DayMonths'. -/
def dayMonthsCard : Claim7 := { stood := { row := dayMonthsRow, standIns := [], harness := (true, "9fccd2a3e89cdd9d826d0173cb262a5221d391c083edf4878a2ce8159edaa0c5"), looks := false }, kinds := [], alts := [], laidByText := true, laidKinds := [.data], laidTests := true, laidLooks := .later }
def DayMonthsCardSaid : Prop := Claim7.holds Tryd.pinned (.plain (OpenSpec.ofChange dayMonthsSpec)) dayMonthsCard

/-- THE TIED CARD OF 'tontinelaw07.DayBetween'. -/
def dayBetweenCard : Claim7 := { stood := { row := dayBetweenRow, standIns := [], harness := (true, "9fccd2a3e89cdd9d826d0173cb262a5221d391c083edf4878a2ce8159edaa0c5"), looks := false }, kinds := [], alts := [], laidByText := true, laidKinds := [.data], laidTests := true, laidLooks := .later }
def DayBetweenCardSaid : Prop := Claim7.holds Tryd.pinned (.plain (OpenSpec.ofChange dayBetweenSpec)) dayBetweenCard

/-- THE SECOND FORM's CARD OF 'tontinelaw07.DayYears'. -/
def dayYearsUptoCard : Claim7 := { stood := { row := dayYearsUptoRow, standIns := [], harness := (true, "9fccd2a3e89cdd9d826d0173cb262a5221d391c083edf4878a2ce8159edaa0c5"), looks := false }, kinds := [], alts := [], laidByText := true, laidKinds := [.data], laidTests := true, laidLooks := .later }
def DayYearsUptoCardSaid : Prop := Claim7.holds Tryd.pinned (.plain (OpenSpec.upto dayYearsSpec)) dayYearsUptoCard

/-- THE SECOND FORM's CARD OF 'tontinelaw07.DayNumbers'. -/
def dayNumbersUptoCard : Claim7 := { stood := { row := dayNumbersUptoRow, standIns := [], harness := (true, "9fccd2a3e89cdd9d826d0173cb262a5221d391c083edf4878a2ce8159edaa0c5"), looks := false }, kinds := [], alts := [], laidByText := true, laidKinds := [.data], laidTests := true, laidLooks := .later }
def DayNumbersUptoCardSaid : Prop := Claim7.holds Tryd.pinned (.plain (OpenSpec.upto dayNumbersSpec)) dayNumbersUptoCard

/-- THE SECOND FORM's CARD OF 'tontinelaw07.DayMoves'. -/
def dayMovesUptoCard : Claim7 := { stood := { row := dayMovesUptoRow, standIns := [], harness := (true, "9fccd2a3e89cdd9d826d0173cb262a5221d391c083edf4878a2ce8159edaa0c5"), looks := false }, kinds := [], alts := [], laidByText := true, laidKinds := [.data], laidTests := true, laidLooks := .later }
def DayMovesUptoCardSaid : Prop := Claim7.holds Tryd.pinned (.plain (OpenSpec.upto dayMovesSpec)) dayMovesUptoCard

/-- THE SECOND FORM's CARD OF 'tontinelaw07.DayAges'. -/
def dayAgesUptoCard : Claim7 := { stood := { row := dayAgesUptoRow, standIns := [], harness := (true, "9fccd2a3e89cdd9d826d0173cb262a5221d391c083edf4878a2ce8159edaa0c5"), looks := false }, kinds := [], alts := [], laidByText := true, laidKinds := [.data], laidTests := true, laidLooks := .later }
def DayAgesUptoCardSaid : Prop := Claim7.holds Tryd.pinned (.plain (OpenSpec.upto dayAgesSpec)) dayAgesUptoCard

/-- THE SECOND FORM's CARD OF 'tontinelaw07.DayMonths'. -/
def dayMonthsUptoCard : Claim7 := { stood := { row := dayMonthsUptoRow, standIns := [], harness := (true, "9fccd2a3e89cdd9d826d0173cb262a5221d391c083edf4878a2ce8159edaa0c5"), looks := false }, kinds := [], alts := [], laidByText := true, laidKinds := [.data], laidTests := true, laidLooks := .later }
def DayMonthsUptoCardSaid : Prop := Claim7.holds Tryd.pinned (.plain (OpenSpec.upto dayMonthsSpec)) dayMonthsUptoCard

/-- THE SECOND FORM's CARD OF 'tontinelaw07.DayBetween'. -/
def dayBetweenUptoCard : Claim7 := { stood := { row := dayBetweenUptoRow, standIns := [], harness := (true, "9fccd2a3e89cdd9d826d0173cb262a5221d391c083edf4878a2ce8159edaa0c5"), looks := false }, kinds := [], alts := [], laidByText := true, laidKinds := [.data], laidTests := true, laidLooks := .later }
def DayBetweenUptoCardSaid : Prop := Claim7.holds Tryd.pinned (.plain (OpenSpec.upto dayBetweenSpec)) dayBetweenUptoCard
end Rows
end Go.Proofs.YtohdbpnkenoclaaDoor
