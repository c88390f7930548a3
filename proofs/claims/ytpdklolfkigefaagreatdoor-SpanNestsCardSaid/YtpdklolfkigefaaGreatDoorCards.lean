/-
  DERIVED. GIVEN WITH THE SEED: THE CARDS: each row of YtpdklolfkigefaaGreatDoorRows.lean that lists a variable, with what it lists TIED to the program's text (the seventh form; the later family's looks); each row that meets fmt, with fmt's text TOLD by the authors' own Lean function (tested against real Go, not proved from fmt's source: count such statements apart). THE CARD IS WHAT COUNTS. Prove the row's statement (the work); the ties are given (YtpdklolfkigefaaGreatDoorTie.lean); close each card by the builder's one call (the guide's Derived/Test/ToyasCard.lean, 'card_holds'). Laid BY PROGRAM, IN A SANDBOX (cutbox-door.mjs). By AI agents, Wed Nov 11 2026. No macro, syntax, notation, axiom, sorry.
-/
import Derived.Test.YtpdklolfkigefaaGreatDoorRows
import GoSem.ClaimSeven
namespace Go.Proofs.YtpdklolfkigefaaGreatDoor
namespace Rows

/-- THE TIED CARD OF 'serinettelaw03.SpanHolds'. -/
def spanHoldsCard : Claim7 := { stood := { row := spanHoldsRow, standIns := [], harness := (true, "4676053642f43e865dec9dc2cd6fb0a75c20e4df6a379e809459c6ff32acda27"), looks := false }, kinds := [], alts := [], laidByText := true, laidKinds := [.data, .data, .data], laidTests := true, laidLooks := .later }
def SpanHoldsCardSaid : Prop := Claim7.holds Tryz.pinned (.plain (OpenSpec.ofChange spanHoldsSpec)) spanHoldsCard

/-- THE TIED CARD OF 'serinettelaw03.SpanNests'. -/
def spanNestsCard : Claim7 := { stood := { row := spanNestsRow, standIns := [], harness := (true, "4676053642f43e865dec9dc2cd6fb0a75c20e4df6a379e809459c6ff32acda27"), looks := false }, kinds := [], alts := [], laidByText := true, laidKinds := [.data, .data, .data], laidTests := true, laidLooks := .later }
def SpanNestsCardSaid : Prop := Claim7.holds Tryz.pinned (.plain (OpenSpec.ofChange spanNestsSpec)) spanNestsCard

/-- THE SECOND FORM's CARD OF 'serinettelaw03.SpanHolds'. -/
def spanHoldsUptoCard : Claim7 := { stood := { row := spanHoldsUptoRow, standIns := [], harness := (true, "4676053642f43e865dec9dc2cd6fb0a75c20e4df6a379e809459c6ff32acda27"), looks := false }, kinds := [], alts := [], laidByText := true, laidKinds := [.data, .data, .data], laidTests := true, laidLooks := .later }
def SpanHoldsUptoCardSaid : Prop := Claim7.holds Tryz.pinned (.plain (OpenSpec.upto spanHoldsSpec)) spanHoldsUptoCard

/-- THE SECOND FORM's CARD OF 'serinettelaw03.SpanNests'. -/
def spanNestsUptoCard : Claim7 := { stood := { row := spanNestsUptoRow, standIns := [], harness := (true, "4676053642f43e865dec9dc2cd6fb0a75c20e4df6a379e809459c6ff32acda27"), looks := false }, kinds := [], alts := [], laidByText := true, laidKinds := [.data, .data, .data], laidTests := true, laidLooks := .later }
def SpanNestsUptoCardSaid : Prop := Claim7.holds Tryz.pinned (.plain (OpenSpec.upto spanNestsSpec)) spanNestsUptoCard
end Rows
end Go.Proofs.YtpdklolfkigefaaGreatDoor
