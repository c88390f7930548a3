/-
  DERIVED. GIVEN WITH THE SEED: THE CARDS: each row of YtnidbhfpkjggmaaGreatDoorRows.lean that lists a variable, with what it lists TIED to the program's text (the seventh form; the later family's looks); each row that meets fmt, with fmt's text TOLD by the authors' own Lean function (tested against real Go, not proved from fmt's source: count such statements apart). THE CARD IS WHAT COUNTS. Prove the row's statement (the work); the ties are given (YtnidbhfpkjggmaaGreatDoorTie.lean); close each card by the builder's one call (the guide's Derived/Test/ToyasCard.lean, 'card_holds'). Laid BY PROGRAM, IN A SANDBOX (cutbox-door.mjs). By AI agents, Wed Nov 11 2026. No macro, syntax, notation, axiom, sorry.
-/
import Derived.Test.YtnidbhfpkjggmaaGreatDoorRows
import GoSem.ClaimSeven
namespace Go.Proofs.YtnidbhfpkjggmaaGreatDoor
namespace Rows

/-- THE TIED CARD OF 'serinettelaw03.SpanSays'. -/
def spanSaysCard : Claim7 := { stood := { row := spanSaysRow, standIns := [], harness := (true, "28272905a9edb3f502b09a7562601e5ebf00555dd75c46a0544e9a3aa6479ed3"), looks := false }, kinds := [], alts := [], laidByText := true, laidKinds := [.data, .data, .data], laidTests := true, laidLooks := .later }
def SpanSaysCardSaid : Prop := Claim7.holds Tryz.pinned (.plain (OpenSpec.ofChange spanSaysSpec)) spanSaysCard

/-- THE TIED CARD OF 'serinettelaw03.SpanMakes'. -/
def spanMakesCard : Claim7 := { stood := { row := spanMakesRow, standIns := [], harness := (true, "28272905a9edb3f502b09a7562601e5ebf00555dd75c46a0544e9a3aa6479ed3"), looks := false }, kinds := [], alts := [], laidByText := true, laidKinds := [.data, .data, .data], laidTests := true, laidLooks := .later }
def SpanMakesCardSaid : Prop := Claim7.holds Tryz.pinned (.plain (OpenSpec.ofChange spanMakesSpec)) spanMakesCard

/-- THE TIED CARD OF 'serinettelaw03.SpanOps'. -/
def spanOpsCard : Claim7 := { stood := { row := spanOpsRow, standIns := [], harness := (true, "28272905a9edb3f502b09a7562601e5ebf00555dd75c46a0544e9a3aa6479ed3"), looks := false }, kinds := [], alts := [], laidByText := true, laidKinds := [.data, .data, .data], laidTests := true, laidLooks := .later }
def SpanOpsCardSaid : Prop := Claim7.holds Tryz.pinned (.plain (OpenSpec.ofChange spanOpsSpec)) spanOpsCard

/-- THE TIED CARD OF 'serinettelaw03.SpanFits'. -/
def spanFitsCard : Claim7 := { stood := { row := spanFitsRow, standIns := [], harness := (true, "28272905a9edb3f502b09a7562601e5ebf00555dd75c46a0544e9a3aa6479ed3"), looks := false }, kinds := [], alts := [], laidByText := true, laidKinds := [.data, .data, .data], laidTests := true, laidLooks := .later }
def SpanFitsCardSaid : Prop := Claim7.holds Tryz.pinned (.plain (OpenSpec.ofChange spanFitsSpec)) spanFitsCard

/-- THE TIED CARD OF 'serinettelaw03.SpanHolds'. -/
def spanHoldsCard : Claim7 := { stood := { row := spanHoldsRow, standIns := [], harness := (true, "28272905a9edb3f502b09a7562601e5ebf00555dd75c46a0544e9a3aa6479ed3"), looks := false }, kinds := [], alts := [], laidByText := true, laidKinds := [.data, .data, .data], laidTests := true, laidLooks := .later }
def SpanHoldsCardSaid : Prop := Claim7.holds Tryz.pinned (.plain (OpenSpec.ofChange spanHoldsSpec)) spanHoldsCard

/-- THE TIED CARD OF 'serinettelaw03.SpanNests'. -/
def spanNestsCard : Claim7 := { stood := { row := spanNestsRow, standIns := [], harness := (true, "28272905a9edb3f502b09a7562601e5ebf00555dd75c46a0544e9a3aa6479ed3"), looks := false }, kinds := [], alts := [], laidByText := true, laidKinds := [.data, .data, .data], laidTests := true, laidLooks := .later }
def SpanNestsCardSaid : Prop := Claim7.holds Tryz.pinned (.plain (OpenSpec.ofChange spanNestsSpec)) spanNestsCard

/-- THE SECOND FORM's CARD OF 'serinettelaw03.SpanSays'. -/
def spanSaysUptoCard : Claim7 := { stood := { row := spanSaysUptoRow, standIns := [], harness := (true, "28272905a9edb3f502b09a7562601e5ebf00555dd75c46a0544e9a3aa6479ed3"), looks := false }, kinds := [], alts := [], laidByText := true, laidKinds := [.data, .data, .data], laidTests := true, laidLooks := .later }
def SpanSaysUptoCardSaid : Prop := Claim7.holds Tryz.pinned (.plain (OpenSpec.upto spanSaysSpec)) spanSaysUptoCard

/-- THE SECOND FORM's CARD OF 'serinettelaw03.SpanMakes'. -/
def spanMakesUptoCard : Claim7 := { stood := { row := spanMakesUptoRow, standIns := [], harness := (true, "28272905a9edb3f502b09a7562601e5ebf00555dd75c46a0544e9a3aa6479ed3"), looks := false }, kinds := [], alts := [], laidByText := true, laidKinds := [.data, .data, .data], laidTests := true, laidLooks := .later }
def SpanMakesUptoCardSaid : Prop := Claim7.holds Tryz.pinned (.plain (OpenSpec.upto spanMakesSpec)) spanMakesUptoCard

/-- THE SECOND FORM's CARD OF 'serinettelaw03.SpanOps'. -/
def spanOpsUptoCard : Claim7 := { stood := { row := spanOpsUptoRow, standIns := [], harness := (true, "28272905a9edb3f502b09a7562601e5ebf00555dd75c46a0544e9a3aa6479ed3"), looks := false }, kinds := [], alts := [], laidByText := true, laidKinds := [.data, .data, .data], laidTests := true, laidLooks := .later }
def SpanOpsUptoCardSaid : Prop := Claim7.holds Tryz.pinned (.plain (OpenSpec.upto spanOpsSpec)) spanOpsUptoCard

/-- THE SECOND FORM's CARD OF 'serinettelaw03.SpanFits'. -/
def spanFitsUptoCard : Claim7 := { stood := { row := spanFitsUptoRow, standIns := [], harness := (true, "28272905a9edb3f502b09a7562601e5ebf00555dd75c46a0544e9a3aa6479ed3"), looks := false }, kinds := [], alts := [], laidByText := true, laidKinds := [.data, .data, .data], laidTests := true, laidLooks := .later }
def SpanFitsUptoCardSaid : Prop := Claim7.holds Tryz.pinned (.plain (OpenSpec.upto spanFitsSpec)) spanFitsUptoCard

/-- THE SECOND FORM's CARD OF 'serinettelaw03.SpanHolds'. -/
def spanHoldsUptoCard : Claim7 := { stood := { row := spanHoldsUptoRow, standIns := [], harness := (true, "28272905a9edb3f502b09a7562601e5ebf00555dd75c46a0544e9a3aa6479ed3"), looks := false }, kinds := [], alts := [], laidByText := true, laidKinds := [.data, .data, .data], laidTests := true, laidLooks := .later }
def SpanHoldsUptoCardSaid : Prop := Claim7.holds Tryz.pinned (.plain (OpenSpec.upto spanHoldsSpec)) spanHoldsUptoCard

/-- THE SECOND FORM's CARD OF 'serinettelaw03.SpanNests'. -/
def spanNestsUptoCard : Claim7 := { stood := { row := spanNestsUptoRow, standIns := [], harness := (true, "28272905a9edb3f502b09a7562601e5ebf00555dd75c46a0544e9a3aa6479ed3"), looks := false }, kinds := [], alts := [], laidByText := true, laidKinds := [.data, .data, .data], laidTests := true, laidLooks := .later }
def SpanNestsUptoCardSaid : Prop := Claim7.holds Tryz.pinned (.plain (OpenSpec.upto spanNestsSpec)) spanNestsUptoCard
end Rows
end Go.Proofs.YtnidbhfpkjggmaaGreatDoor
