/-
  Spans as plain values: Widen: the program's and the specification's readings are the same plain function.
-/
import Derived.Test.YtnidbhfpkjggmaaGreatDoorSz
set_option linter.all false
namespace Go.Proofs.YtnidbhfpkjggmaaGreatDoor
open Go.Pv Go.RowKit

theorem valid_min {p q : Int × Int} (h : Q.valid p = true) (h2 : Q.valid q = true) : Q.valid ((Q.min p q).1, (Q.min p q).2) = true := by
  unfold Q.min
  split
  · split
    · exact h2
    · exact h
  · decide
theorem valid_max {p q : Int × Int} (h : Q.valid p = true) (h2 : Q.valid q = true) : Q.valid ((Q.max p q).1, (Q.max p q).2) = true := by
  unfold Q.max
  split
  · split
    · exact h2
    · exact h
  · decide
theorem join_lo {s t : Sp} (h : S.Ok s) (h2 : S.Ok t) : Q.valid ((S.join s t).ln, (S.join s t).ld) = true ∧ Q.valid ((S.join s t).hn, (S.join s t).hd) = true := by
  unfold S.join
  split
  · exact ⟨h2.lo, h2.hi⟩
  · split
    · exact ⟨h.lo, h.hi⟩
    · exact ⟨valid_min h.lo h2.lo, valid_max h.hi h2.hi⟩
theorem join_em {s t : Sp} (h : s.em = false) : (S.join s t).em = false := by
  unfold S.join
  rw [if_neg (by simp [h])]
  split
  · exact h
  · rfl
theorem widen_same (a b c d n : Int) (o e : Bool) (a' b' c' d' n' : Int) (o' e' : Bool) (k : Int → Int → Int → Int → Int → Bool → Bool → Option DV) : span_Widen a b c d n o e a' b' c' d' n' o' e' k = serinetteref03_Widen a b c d n o e a' b' c' d' n' o' e' k := by
  unfold span_Widen B_span_Widen serinetteref03_Widen B_serinetteref03_Widen serinetteref01_Cmp serinetteref01_None
  simp only [known_eq, rknown_eq, join_eq, rjoin_eq, Sp.ap]
  have hk := S.known_ok ⟨a, b, c, d, n, o, e⟩
  have hkk := known_known ⟨a, b, c, d, n, o, e⟩
  have hk' := S.known_ok ⟨a', b', c', d', n', o', e'⟩
  generalize S.known ⟨a, b, c, d, n, o, e⟩ = s at *
  generalize S.known ⟨a', b', c', d', n', o', e'⟩ = t at *
  rw [show (⟨s.ln, s.ld, s.hn, s.hd, s.den, s.no, s.em⟩ : Sp) = s from rfl, hkk]
  have hj := join_lo hk hk'
  have he := @join_em s t
  generalize S.join s t = j at *
  simp only [bne, cmp_zero hj.1 hk.lo, cmp_zero hj.2 hk.hi]
  generalize ((j.ln == s.ln) && ((j.ld == s.ld) && true)) = x1
  generalize ((j.hn == s.hn) && ((j.hd == s.hd) && true)) = x2
  generalize (j.den == s.den) = x3
  cases h : s.em
  · rw [he h]
    cases x1 <;> cases x2 <;> cases x3 <;> rfl
  · rfl
end Go.Proofs.YtnidbhfpkjggmaaGreatDoor
