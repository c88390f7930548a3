/-
  Spans as plain values: Meet: the program's and the specification's readings are the same plain function.
-/
import Derived.Test.YtnidbhfpkjggmaaGreatDoorSl
set_option linter.all false
namespace Go.Proofs.YtnidbhfpkjggmaaGreatDoor
open Go.Pv Go.RowKit

theorem valid_give {f : Int × Int → Int × Int → Int × Int} {p q : Int × Int} (hf : Q.valid ((f p q).1, (f p q).2) = true) (h : Q.valid p = true) (h2 : Q.valid q = true) : Q.valid ((S.give f p q).1, (S.give f p q).2) = true := by
  unfold S.give
  split
  · split
    · exact hf
    · exact h
  · exact h2
theorem isden_gcd {a b : Int} (h0 : 0 ≤ a) (h1 : a ≤ 1073741824) (h2 : 0 ≤ b) (h3 : b ≤ 1073741824) : S.isden ((a.natAbs.gcd b.natAbs : Nat) : Int) = true := by
  have hg : a.natAbs.gcd b.natAbs ≤ 1073741824 := by
    by_cases hb : b.natAbs = 0
    · rw [hb, Nat.gcd_zero_right]; omega
    · have := Nat.gcd_le_right a.natAbs (Nat.pos_of_ne_zero hb); omega
  unfold S.isden
  rw [decide_eq_true (by omega), decide_eq_true (by omega)]; rfl
theorem meet_same (a b c d n : Int) (o e : Bool) (a' b' c' d' n' : Int) (o' e' : Bool) (k : Int → Int → Int → Int → Int → Bool → Bool → Option DV) : span_Meet a b c d n o e a' b' c' d' n' o' e' k = serinetteref03_Meet a b c d n o e a' b' c' d' n' o' e' k := by
  unfold span_Meet B_span_Meet serinetteref03_Meet B_serinetteref03_Meet serinetteref01_Cmp serinetteref01_Is span_nothing B_span_nothing serinetteref03_Empty B_serinetteref03_Empty
  simp only [known_eq, rknown_eq, make_eq, Sp.ap]
  have hs := S.known_ok ⟨a, b, c, d, n, o, e⟩
  have ht := S.known_ok ⟨a', b', c', d', n', o', e'⟩
  generalize S.known ⟨a, b, c, d, n, o, e⟩ = s at *
  generalize S.known ⟨a', b', c', d', n', o', e'⟩ = t at *
  have hl := valid_give (valid_max hs.lo ht.lo) hs.lo ht.lo
  have hh := valid_give (valid_min hs.hi ht.hi) hs.hi ht.hi
  have hi := isden_gcd hs.d0 hs.d1 ht.d0 ht.d1
  simp only [give_max hs.lo ht.lo, give_min hs.hi ht.hi, rgive _ ht.lo, rgive _ ht.hi, gcd_eq hs.d0 hs.d1 ht.d0 ht.d1, rgcd_eq hs.d0 hs.d1 ht.d0 ht.d1, if_true, Bool.false_eq_true, if_false]
  generalize S.give Q.max (s.ln, s.ld) (t.ln, t.ld) = p at *
  generalize S.give Q.min (s.hn, s.hd) (t.hn, t.hd) = q at *
  generalize ((s.den.natAbs.gcd t.den.natAbs : Nat) : Int) = g at *
  obtain ⟨p1, p2⟩ := p
  obtain ⟨q1, q2⟩ := q
  have hn : Q.isq p1 p2 = false → Q.isq q1 q2 = true → decide (Q.cmp (p1, p2) (q1, q2) > 0) = false := fun h1 h2 => by simpa using cmp_none h1 h2
  simp only [S.make, clean_valid hl, clean_valid hh, hi, if_true, S.ooo]
  generalize decide (Q.cmp (p1, p2) (q1, q2) > 0) = x at *
  generalize Q.isq p1 p2 = y1 at *
  generalize Q.isq q1 q2 = y2 at *
  cases s.no <;> cases s.em <;> cases t.em <;> (try rfl) <;> cases y1 <;> cases y2 <;> cases x <;> (try (simp at hn; done)) <;> rfl
end Go.Proofs.YtnidbhfpkjggmaaGreatDoor
