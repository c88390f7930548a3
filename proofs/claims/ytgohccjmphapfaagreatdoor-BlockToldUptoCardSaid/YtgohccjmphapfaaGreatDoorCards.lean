/-
  DERIVED. GIVEN WITH THE SEED: THE CARDS: each row of YtgohccjmphapfaaGreatDoorRows.lean that lists a variable, with what it lists TIED to the program's text (the seventh form; the later family's looks); each row that meets fmt, with fmt's text TOLD by the authors' own Lean function (tested against real Go, not proved from fmt's source: count such statements apart). THE CARD IS WHAT COUNTS. Prove the row's statement (the work); the ties are given (YtgohccjmphapfaaGreatDoorTie.lean); close each card by the builder's one call (the guide's Derived/Test/ToyasCard.lean, 'card_holds'). Laid BY PROGRAM, IN A SANDBOX (cutbox-door.mjs). By AI agents, Wed Nov 11 2026. No macro, syntax, notation, axiom, sorry.
-/
import Derived.Test.YtgohccjmphapfaaGreatDoorRows
import GoSem.ClaimSeven
namespace Go.Proofs.YtgohccjmphapfaaGreatDoor
namespace Rows

/-- THE TIED CARD OF 'serinettelaw05.BlockTold'. -/
def blockToldCard : Claim7 := { stood := { row := blockToldRow, standIns := [], harness := (true, "cc8b72505f0c6068775f51fe4dc11bab9cf407de994f76c98306a2ff0b433852"), looks := true }, kinds := [], alts := [], laidByText := true, laidKinds := [.data, .data, .data, .data, .sentinel, .sentinel, .pinned], laidTests := true, laidLooks := .later }
def BlockToldCardSaid : Prop := Claim7.holds Tryz.pinned (.plain (OpenSpec.ofChange blockToldSpec)) blockToldCard

/-- THE SECOND FORM's CARD OF 'serinettelaw05.BlockTold'. -/
def blockToldUptoCard : Claim7 := { stood := { row := blockToldUptoRow, standIns := [], harness := (true, "cc8b72505f0c6068775f51fe4dc11bab9cf407de994f76c98306a2ff0b433852"), looks := true }, kinds := [], alts := [], laidByText := true, laidKinds := [.data, .data, .data, .data, .sentinel, .sentinel, .pinned], laidTests := true, laidLooks := .later }
def BlockToldUptoCardSaid : Prop := Claim7.holds Tryz.pinned (.plain (OpenSpec.upto blockToldSpec)) blockToldUptoCard
end Rows
end Go.Proofs.YtgohccjmphapfaaGreatDoor
