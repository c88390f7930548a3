/-
  DERIVED. GIVEN WITH THE SEED: THE CARDS: each row of YtpdklolfkigefaaDoorRows.lean that lists a variable, with what it lists TIED to the program's text (the seventh form; the later family's looks); each row that meets fmt, with fmt's text TOLD by the authors' own Lean function (tested against real Go, not proved from fmt's source: count such statements apart). THE CARD IS WHAT COUNTS. Prove the row's statement (the work); the ties are given (YtpdklolfkigefaaDoorTie.lean); close each card by the builder's one call (the guide's Derived/Test/ToyasCard.lean, 'card_holds'). Laid BY PROGRAM, IN A SANDBOX (cutbox-door.mjs). By AI agents, Wed Nov 11 2026. No macro, syntax, notation, axiom, sorry.
-/
import Derived.Test.YtpdklolfkigefaaDoorRows
import GoSem.ClaimSeven
namespace Go.Proofs.YtpdklolfkigefaaDoor
namespace Rows

/-- THE TIED CARD OF 'serinettelaw02.FormatParses'. -/
def formatParsesCard : Claim7 := { stood := { row := formatParsesRow, standIns := [], harness := (true, "48bd041a85f8af61ad26a010ed4844e68caab0a941bff8ae454d3dcf101eea15"), looks := true }, kinds := [], alts := [], laidByText := true, laidKinds := [.data, .data, .data, .data, .sentinel, .sentinel, .pinned], laidTests := true, laidLooks := .later }
def FormatParsesCardSaid : Prop := Claim7.holds Tryd.pinned (.plain (OpenSpec.ofChange formatParsesSpec)) formatParsesCard

/-- THE SECOND FORM's CARD OF 'serinettelaw02.FormatParses'. -/
def formatParsesUptoCard : Claim7 := { stood := { row := formatParsesUptoRow, standIns := [], harness := (true, "48bd041a85f8af61ad26a010ed4844e68caab0a941bff8ae454d3dcf101eea15"), looks := true }, kinds := [], alts := [], laidByText := true, laidKinds := [.data, .data, .data, .data, .sentinel, .sentinel, .pinned], laidTests := true, laidLooks := .later }
def FormatParsesUptoCardSaid : Prop := Claim7.holds Tryd.pinned (.plain (OpenSpec.upto formatParsesSpec)) formatParsesUptoCard
end Rows
end Go.Proofs.YtpdklolfkigefaaDoor
