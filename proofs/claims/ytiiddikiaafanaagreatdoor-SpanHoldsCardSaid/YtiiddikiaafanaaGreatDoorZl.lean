import Derived.Test.YtiiddikiaafanaaGreatDoorAdd
import Derived.Test.YtiiddikiaafanaaGreatDoorZr
import Derived.Test.YtiiddikiaafanaaGreatDoorZp
set_option linter.all false
/-
  Leaves of formats: powers of two, sizes.
-/
namespace Go.Proofs.YtiiddikiaafanaaGreatDoor
open Go.RowKit
/-- What a contract's end tells, said of the world that the walk began in. -/
theorem after {W w1 a : World} {B : Nat} (k : Nat) (hb : Below W.heap.size W w1) (hk : k ≤ W.heap.size) (h : Below B a W) (hB : B ≤ k) :
    (∀ b o, b < k → w1.cell? ⟨b, o, none⟩ = W.cell? ⟨b, o, none⟩) ∧ (∀ b o, b < k → w1.frozen? ⟨b, o, none⟩ = W.frozen? ⟨b, o, none⟩) ∧ k ≤ w1.heap.size ∧ Below B a w1 :=
  ⟨(bck k hb hk).1, (bck k hb hk).2.1, (bck k hb hk).2.2, on_below hb h (Nat.le_trans hB hk)⟩

end Go.Proofs.YtiiddikiaafanaaGreatDoor
