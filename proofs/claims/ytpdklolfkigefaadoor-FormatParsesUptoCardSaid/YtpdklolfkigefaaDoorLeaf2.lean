/-
  The specification's own leaves: None, Divisor, Is, least.
-/
import Derived.Test.YtpdklolfkigefaaDoorLeaf
set_option linter.all false
namespace Go.Proofs.YtpdklolfkigefaaDoor
open Go.RowKit

def leastInt : Int := -9223372036854775808
theorem leastInt_wrap : wrap64 (-leastInt) = leastInt := by unfold wrap64 leastInt; omega
theorem leastInt_ne : (leastInt != 0) = true := by decide
end Go.Proofs.YtpdklolfkigefaaDoor
