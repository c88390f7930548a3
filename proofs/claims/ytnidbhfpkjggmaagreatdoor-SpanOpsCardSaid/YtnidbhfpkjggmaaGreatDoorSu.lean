/-
  Spans as plain values: Within: the program's and the specification's readings are the same plain function.
-/
import Derived.Test.YtnidbhfpkjggmaaGreatDoorSt
set_option linter.all false
namespace Go.Proofs.YtnidbhfpkjggmaaGreatDoor
open Go.Pv Go.RowKit

namespace S
def within (s t : Sp) : Bool :=
  if (s.no && !t.no) = true then false
  else if (s.em || t.em) = true then s.em
  else (!Q.isq t.ln t.ld || (Q.isq s.ln s.ld && !decide (Q.cmp (s.ln, s.ld) (t.ln, t.ld) < 0))) && (!Q.isq t.hn t.hd || (Q.isq s.hn s.hd && !decide (Q.cmp (s.hn, s.hd) (t.hn, t.hd) > 0))) && (t.den == 0 || (!(s.den == 0) && Int.tmod t.den s.den == 0))
end S
theorem cmp_low {a b c d : Int} (h : Q.isq a b = false) (h2 : Q.isq c d = true) : decide (Q.cmp (a, b) (c, d) < 0) = true := by
  unfold Q.cmp Q.both Q.rank Q.cmpi
  simp [h, h2]
theorem within_eq (a b c d n : Int) (o e : Bool) (a' b' c' d' n' : Int) (o' e' : Bool) (k : Bool → Option DV) : span_Within a b c d n o e a' b' c' d' n' o' e' k = k (S.within (S.known ⟨a, b, c, d, n, o, e⟩) (S.known ⟨a', b', c', d', n', o', e'⟩)) := by
  unfold span_Within B_span_Within S.within span_isAmong B_span_isAmong span_isOpen B_span_isOpen ratio_Cmp
  simp only [known_eq, Sp.ap]
  have hk := S.known_ok ⟨a, b, c, d, n, o, e⟩
  have hk' := S.known_ok ⟨a', b', c', d', n', o', e'⟩
  generalize S.known ⟨a, b, c, d, n, o, e⟩ = s at *
  generalize S.known ⟨a', b', c', d', n', o', e'⟩ = t at *
  have hl := @cmp_low s.ln s.ld t.ln t.ld
  simp only [open_eq hk.hi, open_eq hk'.lo, open_eq hk'.hi, ge_not, le_not, bne]
  generalize decide (Q.cmp (s.ln, s.ld) (t.ln, t.ld) < 0) = x1 at *
  generalize decide (Q.cmp (s.hn, s.hd) (t.hn, t.hd) > 0) = x2 at *
  generalize (s.den == 0) = x3 at *
  generalize (t.den == 0) = x4 at *
  generalize (Int.tmod t.den s.den == 0) = x5 at *
  generalize Q.isq s.ln s.ld = y1 at *
  generalize Q.isq s.hn s.hd = y2 at *
  generalize Q.isq t.ln t.ld = y3 at *
  generalize Q.isq t.hn t.hd = y4 at *
  cases s.no <;> cases t.no <;> cases s.em <;> cases t.em <;> (try rfl) <;> cases x1 <;> cases y1 <;> cases y3 <;> (try (simp at hl; done)) <;> cases x2 <;> cases x3 <;> cases x4 <;> cases y2 <;> cases y4 <;> rfl
theorem rwithin_eq (a b c d n : Int) (o e : Bool) (a' b' c' d' n' : Int) (o' e' : Bool) (k : Bool → Option DV) : serinetteref03_Within a b c d n o e a' b' c' d' n' o' e' k = k (S.within (S.known ⟨a, b, c, d, n, o, e⟩) (S.known ⟨a', b', c', d', n', o', e'⟩)) := by
  unfold serinetteref03_Within B_serinetteref03_Within S.within serinetteref01_Is serinetteref01_Cmp
  simp only [rknown_eq, Sp.ap]
  generalize S.known ⟨a, b, c, d, n, o, e⟩ = s at *
  generalize S.known ⟨a', b', c', d', n', o', e'⟩ = t at *
  simp only [bne]
  generalize decide (Q.cmp (s.ln, s.ld) (t.ln, t.ld) < 0) = x1 at *
  generalize decide (Q.cmp (s.hn, s.hd) (t.hn, t.hd) > 0) = x2 at *
  generalize (s.den == 0) = x3 at *
  generalize (t.den == 0) = x4 at *
  generalize (Int.tmod t.den s.den == 0) = x5 at *
  generalize Q.isq s.ln s.ld = y1 at *
  generalize Q.isq s.hn s.hd = y2 at *
  generalize Q.isq t.ln t.ld = y3 at *
  generalize Q.isq t.hn t.hd = y4 at *
  cases s.no <;> cases t.no <;> cases s.em <;> cases t.em <;> (try rfl) <;> cases x1 <;> cases y1 <;> cases y3 <;> cases x2 <;> cases x3 <;> cases x4 <;> cases y2 <;> cases y4 <;> rfl
end Go.Proofs.YtnidbhfpkjggmaaGreatDoor
