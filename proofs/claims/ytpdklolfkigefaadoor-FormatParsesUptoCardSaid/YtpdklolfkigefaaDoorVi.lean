/-
  Formats: Bound, Code, Value at any format: what the calls give.
-/
import Derived.Test.YtpdklolfkigefaaDoorVh
set_option linter.all false
namespace Go.Proofs.YtpdklolfkigefaaDoor
open Go.RowKit
end Go.Proofs.YtpdklolfkigefaaDoor
