/-
  DERIVED. GIVEN WITH THE SEED: THE CARDS: each row of YthadighbhdekdaaDoorRows.lean that lists a variable, with what it lists TIED to the program's text (the seventh form; the later family's looks); each row that meets fmt, with fmt's text TOLD by the authors' own Lean function (tested against real Go, not proved from fmt's source: count such statements apart). THE CARD IS WHAT COUNTS. Prove the row's statement (the work); the ties are given (YthadighbhdekdaaDoorTie.lean); close each card by the builder's one call (the guide's Derived/Test/ToyasCard.lean, 'card_holds'). Laid BY PROGRAM, IN A SANDBOX (cutbox-door.mjs). By AI agents, Wed Nov 11 2026. No macro, syntax, notation, axiom, sorry.
-/
import Derived.Test.YthadighbhdekdaaDoorRows
import GoSem.ClaimSeven
namespace Go.Proofs.YthadighbhdekdaaDoor
namespace Rows

/-- THE TIED CARD OF 'tontinelaw07.DayTexts'. -/
def dayTextsCard : Claim7 := { stood := { row := dayTextsRow, standIns := [], harness := (true, "cd66fd422655d24a9cf8485f72378ff4e67523e3b55b59675db8d2b92ec22be9"), looks := true }, kinds := [], alts := [], laidByText := true, laidKinds := [.data, .data, .data, .sentinel, .sentinel, .data], laidTests := true, laidLooks := .later }
def DayTextsCardSaid : Prop := Claim7.holds Tryd.pinned (.plain (OpenSpec.ofChange dayTextsSpec)) dayTextsCard

/-- THE TIED CARD OF 'tontinelaw07.DayBack'. -/
def dayBackCard : Claim7 := { stood := { row := dayBackRow, standIns := [], harness := (true, "cd66fd422655d24a9cf8485f72378ff4e67523e3b55b59675db8d2b92ec22be9"), looks := true }, kinds := [], alts := [], laidByText := true, laidKinds := [.data, .data, .data, .sentinel, .sentinel, .data], laidTests := true, laidLooks := .later }
def DayBackCardSaid : Prop := Claim7.holds Tryd.pinned (.plain (OpenSpec.ofChange dayBackSpec)) dayBackCard

/-- THE TIED CARD OF 'tontinelaw07.DayWorks'. -/
def dayWorksCard : Claim7 := { stood := { row := dayWorksRow, standIns := [], harness := (true, "cd66fd422655d24a9cf8485f72378ff4e67523e3b55b59675db8d2b92ec22be9"), looks := true }, kinds := [], alts := [], laidByText := true, laidKinds := [.data], laidTests := true, laidLooks := .later }
def DayWorksCardSaid : Prop := Claim7.holds Tryd.pinned (.plain (OpenSpec.ofChange dayWorksSpec)) dayWorksCard

/-- THE SECOND FORM's CARD OF 'tontinelaw07.DayTexts'. -/
def dayTextsUptoCard : Claim7 := { stood := { row := dayTextsUptoRow, standIns := [], harness := (true, "cd66fd422655d24a9cf8485f72378ff4e67523e3b55b59675db8d2b92ec22be9"), looks := true }, kinds := [], alts := [], laidByText := true, laidKinds := [.data, .data, .data, .sentinel, .sentinel, .data], laidTests := true, laidLooks := .later }
def DayTextsUptoCardSaid : Prop := Claim7.holds Tryd.pinned (.plain (OpenSpec.upto dayTextsSpec)) dayTextsUptoCard

/-- THE SECOND FORM's CARD OF 'tontinelaw07.DayBack'. -/
def dayBackUptoCard : Claim7 := { stood := { row := dayBackUptoRow, standIns := [], harness := (true, "cd66fd422655d24a9cf8485f72378ff4e67523e3b55b59675db8d2b92ec22be9"), looks := true }, kinds := [], alts := [], laidByText := true, laidKinds := [.data, .data, .data, .sentinel, .sentinel, .data], laidTests := true, laidLooks := .later }
def DayBackUptoCardSaid : Prop := Claim7.holds Tryd.pinned (.plain (OpenSpec.upto dayBackSpec)) dayBackUptoCard

/-- THE SECOND FORM's CARD OF 'tontinelaw07.DayWorks'. -/
def dayWorksUptoCard : Claim7 := { stood := { row := dayWorksUptoRow, standIns := [], harness := (true, "cd66fd422655d24a9cf8485f72378ff4e67523e3b55b59675db8d2b92ec22be9"), looks := true }, kinds := [], alts := [], laidByText := true, laidKinds := [.data], laidTests := true, laidLooks := .later }
def DayWorksUptoCardSaid : Prop := Claim7.holds Tryd.pinned (.plain (OpenSpec.upto dayWorksSpec)) dayWorksUptoCard
end Rows
end Go.Proofs.YthadighbhdekdaaDoor
