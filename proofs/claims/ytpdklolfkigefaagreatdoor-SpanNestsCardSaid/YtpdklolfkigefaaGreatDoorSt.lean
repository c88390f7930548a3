/-
  Spans as plain values: Has, Point, All: the program's and the specification's readings are the same plain functions.
-/
import Derived.Test.YtpdklolfkigefaaGreatDoorSs
set_option linter.all false
namespace Go.Proofs.YtpdklolfkigefaaGreatDoor
open Go.Pv Go.RowKit

namespace S
def below (a b c d : Int) : Bool := Q.isq c d && decide (Q.cmp (a, b) (c, d) < 0)
def above (a b c d : Int) : Bool := Q.isq c d && decide (Q.cmp (a, b) (c, d) > 0)
def divs (n d : Int) : Bool := n == 0 || Int.tmod n d == 0
def has (s : Sp) (a b : Int) : Bool :=
  if Q.isq a b = true then !s.em && !below a b s.ln s.ld && !above a b s.hn s.hd && divs s.den b else s.no
def point (a b : Int) : Sp := if Q.isq a b = true then ⟨a, b, a, b, b, false, false⟩ else ⟨0, 0, 0, 0, 0, true, true⟩
/-- What a span that is known keeps to. -/
structure Ok (s : Sp) : Prop where
  lo : Q.valid (s.ln, s.ld) = true
  hi : Q.valid (s.hn, s.hd) = true
  ord : ooo s.ln s.ld s.hn s.hd = false
  d0 : 0 ≤ s.den
  d1 : s.den ≤ 1073741824
theorem known_ok (s : Sp) : Ok (known s) := by
  unfold known
  cases h : valid s
  · rw [if_neg (by decide)]
    exact ⟨by decide, by decide, by decide, by decide, by decide⟩
  · unfold valid at h
    rw [if_pos rfl]
    cases he : s.em
    · rw [he] at h
      simp [isden] at h
      exact ⟨h.1.1.1, h.1.1.2, h.1.2, h.2.1, h.2.2⟩
    · rw [he] at h
      simp at h
      obtain ⟨⟨⟨⟨h1, h2⟩, h3⟩, h4⟩, h5⟩ := h
      exact ⟨by rw [h1, h2]; decide, by rw [h3, h4]; decide, by rw [h1, h2, h3, h4]; decide, by rw [h5]; decide, by rw [h5]; decide⟩
end S
theorem isq_pos {a b : Int} (h : Q.isq a b = true) : (b == 0) = false := by
  unfold Q.isq at h
  have := of_decide_eq_true h
  have : b ≠ 0 := by omega
  simp [this]
theorem open_eq {a b : Int} (h : Q.valid (a, b) = true) : ((a == 0) && ((b == 0) && true)) = !Q.isq a b := by
  unfold Q.valid at h
  cases hq : Q.isq a b
  · simpa [hq] using h
  · simp [isq_pos hq]
theorem ge_not (x : Int) : decide (x ≥ 0) = !decide (x < 0) := by by_cases h : x < 0 <;> simp [h] <;> omega
theorem le_not (x : Int) : decide (x ≤ 0) = !decide (x > 0) := by by_cases h : x > 0 <;> simp [h] <;> omega
theorem has_eq (a b c d n : Int) (o e : Bool) (x y : Int) (k : Bool → Option DV) : span_Has a b c d n o e x y k = k (S.has (S.known ⟨a, b, c, d, n, o, e⟩) x y) := by
  unfold span_Has B_span_Has S.has span_isAmong B_span_isAmong span_isOpen B_span_isOpen ratio_Is ratio_Cmp
  simp only [known_eq, Sp.ap]
  have hk := S.known_ok ⟨a, b, c, d, n, o, e⟩
  generalize S.known ⟨a, b, c, d, n, o, e⟩ = s at *
  simp only [open_eq hk.lo, open_eq hk.hi, ge_not, le_not]
  cases hq : Q.isq x y
  · simp
  · have hv : Q.valid (x, y) = true := by simp [Q.valid, hq]
    simp only [open_eq hv, hq, isq_pos hq, S.below, S.above, S.divs]
    cases s.em <;> cases Q.isq s.ln s.ld <;> cases Q.isq s.hn s.hd <;> cases decide (Q.cmp (x, y) (s.ln, s.ld) < 0) <;> cases decide (Q.cmp (x, y) (s.hn, s.hd) > 0) <;> cases s.den == 0 <;> simp
theorem rhas_eq (a b c d n : Int) (o e : Bool) (x y : Int) (k : Bool → Option DV) : serinetteref03_Has a b c d n o e x y k = k (S.has (S.known ⟨a, b, c, d, n, o, e⟩) x y) := by
  unfold serinetteref03_Has B_serinetteref03_Has S.has serinetteref01_Is serinetteref01_Cmp
  simp only [rknown_eq, Sp.ap]
  generalize S.known ⟨a, b, c, d, n, o, e⟩ = s at *
  cases hq : Q.isq x y
  · simp
  · simp only [hq, isq_pos hq, S.below, S.above, S.divs]
    cases s.em <;> cases Q.isq s.ln s.ld <;> cases Q.isq s.hn s.hd <;> cases decide (Q.cmp (x, y) (s.ln, s.ld) < 0) <;> cases decide (Q.cmp (x, y) (s.hn, s.hd) > 0) <;> cases s.den == 0 <;> simp
theorem point_eq (a b : Int) (k : Int → Int → Int → Int → Int → Bool → Bool → Option DV) : span_Point a b k = (S.point a b).ap k := by
  unfold span_Point B_span_Point S.point ratio_Is span_nothing B_span_nothing
  cases Q.isq a b <;> simp [Sp.ap]
end Go.Proofs.YtpdklolfkigefaaGreatDoor
