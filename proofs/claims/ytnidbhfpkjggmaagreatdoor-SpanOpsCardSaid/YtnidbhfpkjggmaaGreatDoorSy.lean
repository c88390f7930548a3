/-
  Spans as plain values: Text: the program's and the specification's readings are the same plain function.
-/
import Derived.Test.YtnidbhfpkjggmaaGreatDoorSx
set_option linter.all false
namespace Go.Proofs.YtnidbhfpkjggmaaGreatDoor
open Go.Pv Go.RowKit

theorem star_eq {a b : Int} (h : Q.valid (a, b) = true) (k : ByteArray → Option DV) : span_endText a b k = serinetteref03_star a b k := by
  unfold span_endText B_span_endText serinetteref03_star B_serinetteref03_star span_isOpen B_span_isOpen ratio_Text B_ratio_Text serinetteref01_Text B_serinetteref01_Text ratio_Is
  simp only [open_eq h, bne, serinetteref01_Is]
  cases Q.isq a b
  · rfl
  · cases b == 1 <;> simp
theorem text_same (a b c d n : Int) (o e : Bool) (k : ByteArray → Option DV) : span_Text a b c d n o e k = serinetteref03_Text a b c d n o e k := by
  unfold span_Text B_span_Text serinetteref03_Text B_serinetteref03_Text
  simp only [known_eq, rknown_eq, Sp.ap]
  have hk := S.known_ok ⟨a, b, c, d, n, o, e⟩
  simp only [star_eq hk.lo, star_eq hk.hi]
end Go.Proofs.YtnidbhfpkjggmaaGreatDoor
