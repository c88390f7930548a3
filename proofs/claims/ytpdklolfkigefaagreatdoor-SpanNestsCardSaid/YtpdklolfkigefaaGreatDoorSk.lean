/-
  Spans as plain values: Widen: the program's and the specification's readings are the same plain function.
-/
import Derived.Test.YtpdklolfkigefaaGreatDoorSz
set_option linter.all false
namespace Go.Proofs.YtpdklolfkigefaaGreatDoor
open Go.Pv Go.RowKit

theorem valid_min {p q : Int × Int} (h : Q.valid p = true) (h2 : Q.valid q = true) : Q.valid ((Q.min p q).1, (Q.min p q).2) = true := by
  unfold Q.min
  split
  · split
    · exact h2
    · exact h
  · decide
theorem valid_max {p q : Int × Int} (h : Q.valid p = true) (h2 : Q.valid q = true) : Q.valid ((Q.max p q).1, (Q.max p q).2) = true := by
  unfold Q.max
  split
  · split
    · exact h2
    · exact h
  · decide
theorem join_lo {s t : Sp} (h : S.Ok s) (h2 : S.Ok t) : Q.valid ((S.join s t).ln, (S.join s t).ld) = true ∧ Q.valid ((S.join s t).hn, (S.join s t).hd) = true := by
  unfold S.join
  split
  · exact ⟨h2.lo, h2.hi⟩
  · split
    · exact ⟨h.lo, h.hi⟩
    · exact ⟨valid_min h.lo h2.lo, valid_max h.hi h2.hi⟩
theorem join_em {s t : Sp} (h : s.em = false) : (S.join s t).em = false := by
  unfold S.join
  rw [if_neg (by simp [h])]
  split
  · exact h
  · rfl
end Go.Proofs.YtpdklolfkigefaaGreatDoor
