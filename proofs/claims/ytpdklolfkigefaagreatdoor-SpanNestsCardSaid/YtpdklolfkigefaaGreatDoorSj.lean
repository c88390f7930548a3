/-
  Spans as plain values: Meet: the program's and the specification's readings are the same plain function.
-/
import Derived.Test.YtpdklolfkigefaaGreatDoorSl
set_option linter.all false
namespace Go.Proofs.YtpdklolfkigefaaGreatDoor
open Go.Pv Go.RowKit

theorem valid_give {f : Int × Int → Int × Int → Int × Int} {p q : Int × Int} (hf : Q.valid ((f p q).1, (f p q).2) = true) (h : Q.valid p = true) (h2 : Q.valid q = true) : Q.valid ((S.give f p q).1, (S.give f p q).2) = true := by
  unfold S.give
  split
  · split
    · exact hf
    · exact h
  · exact h2
theorem isden_gcd {a b : Int} (h0 : 0 ≤ a) (h1 : a ≤ 1073741824) (h2 : 0 ≤ b) (h3 : b ≤ 1073741824) : S.isden ((a.natAbs.gcd b.natAbs : Nat) : Int) = true := by
  have hg : a.natAbs.gcd b.natAbs ≤ 1073741824 := by
    by_cases hb : b.natAbs = 0
    · rw [hb, Nat.gcd_zero_right]; omega
    · have := Nat.gcd_le_right a.natAbs (Nat.pos_of_ne_zero hb); omega
  unfold S.isden
  rw [decide_eq_true (by omega), decide_eq_true (by omega)]; rfl
end Go.Proofs.YtpdklolfkigefaaGreatDoor
