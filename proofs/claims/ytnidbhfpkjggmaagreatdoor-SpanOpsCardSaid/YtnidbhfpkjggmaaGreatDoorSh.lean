/-
  Spans as plain values: the text is a text.
-/
import Derived.Test.YtnidbhfpkjggmaaGreatDoorSj
set_option linter.all false
namespace Go.Proofs.YtnidbhfpkjggmaaGreatDoor
open Go.Pv Go.RowKit

theorem int_text {n : Int} (h : -9223372036854775808 ≤ n) (h2 : n ≤ 9223372036854775807) : ∃ T : ByteArray, T.size ≤ 21 ∧ ∀ k, strconv_FormatInt n 10 k = k T := by
  refine ⟨⟨(Lib.itoa n).toArray⟩, Lib.itoa_length_le n (by omega) (by omega), fun k => ?_⟩
  unfold strconv_FormatInt
  rw [decide_eq_true (by omega)]; rfl
theorem star_text {a b : Int} (h : Q.valid (a, b) = true) : ∃ T : ByteArray, T.size ≤ 50 ∧ ∀ k, serinetteref03_star a b k = k T := by
  unfold serinetteref03_star B_serinetteref03_star serinetteref01_Text B_serinetteref01_Text serinetteref01_Is
  cases hq : Q.isq a b
  · exact ⟨_, by decide, fun k => rfl⟩
  · have hb := hq
    unfold Q.isq at hb
    obtain ⟨b1, b2, b3, b4, -⟩ := of_decide_eq_true hb
    obtain ⟨A, hA, eA⟩ := int_text (n := a) (by omega) (by omega)
    obtain ⟨B, hB, eB⟩ := int_text (n := b) (by omega) (by omega)
    simp only [eA, eB, Bool.not_true, cond_false]
    have hm : IntKind.max .i64 = 9223372036854775807 := by decide
    have hs : ByteArray.size ⟨#[47]⟩ = 1 := rfl
    cases b != 1
    · exact ⟨A, by omega, fun k => rfl⟩
    · refine ⟨(A ++ ⟨#[47]⟩) ++ B, by simp only [ByteArray.size_append, hs]; omega, fun k => ?_⟩
      rw [decide_eq_false (by simp only [hm, ByteArray.size_append, hs]; omega), decide_eq_false (by simp only [hm, ByteArray.size_append, hs]; omega)]
      rfl
end Go.Proofs.YtnidbhfpkjggmaaGreatDoor
