/-
  Spans as plain values: the text is a text.
-/
import Derived.Test.YtpdklolfkigefaaGreatDoorSj
set_option linter.all false
namespace Go.Proofs.YtpdklolfkigefaaGreatDoor
open Go.Pv Go.RowKit

theorem int_text {n : Int} (h : -9223372036854775808 ≤ n) (h2 : n ≤ 9223372036854775807) : ∃ T : ByteArray, T.size ≤ 21 ∧ ∀ k, strconv_FormatInt n 10 k = k T := by
  refine ⟨⟨(Lib.itoa n).toArray⟩, Lib.itoa_length_le n (by omega) (by omega), fun k => ?_⟩
  unfold strconv_FormatInt
  rw [decide_eq_true (by omega)]; rfl
end Go.Proofs.YtpdklolfkigefaaGreatDoor
