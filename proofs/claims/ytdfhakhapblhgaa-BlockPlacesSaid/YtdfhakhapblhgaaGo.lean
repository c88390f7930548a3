/-
  A tree is the same as itself.
-/
import Derived.Test.YtdfhakhapblhgaaGm
set_option linter.all false
namespace Go.Proofs.Ytdfhakhapblhgaa
open Go Go.Pv Go.RowKit
theorem alike_self : ∀ l : List (Int × Int), alike l l = true
  | [] => rfl
  | q :: l => by simp [alike, alikeQ, alike_self l]
mutual
theorem BT.same_self : ∀ b : BT, b.same b = true
  | .mk op nm n m nums fk fi ff fr fo kids => by simp [BT.same, alike_self, BT.sameL_self kids]
theorem BT.sameL_self : ∀ l : List BT, BT.sameL l l = true
  | [] => rfl
  | b :: l => by simp [BT.sameL, BT.same_self b, BT.sameL_self l]
end
theorem same_r (N : Nat) (a b : BT) (ha : a.ok) (hb : b.ok) (hd : a.depth ≤ N) (k : KB) : BT.call2 (serinetteref05_Same N) a b k = k (a.same b) := same_ref N N a b ha hb hd k
end Go.Proofs.Ytdfhakhapblhgaa
