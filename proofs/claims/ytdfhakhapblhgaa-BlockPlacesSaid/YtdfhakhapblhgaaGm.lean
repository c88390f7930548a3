/-
  The law's last word.
-/
import Derived.Test.YtdfhakhapblhgaaGl
set_option linter.all false
namespace Go.Proofs.Ytdfhakhapblhgaa
open Go Go.Pv Go.RowKit
set_option maxRecDepth 100000
theorem awake_tree (n : Nat) (k : KB) : serinettelaw05_awake (n + 64) k = k true := by kernel_rfl
end Go.Proofs.Ytdfhakhapblhgaa
