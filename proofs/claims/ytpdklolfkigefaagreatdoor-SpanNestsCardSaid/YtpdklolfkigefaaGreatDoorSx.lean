/-
  Spans as plain values: Join, Widen: the program's and the specification's readings are the same plain functions.
-/
import Derived.Test.YtpdklolfkigefaaGreatDoorSv
set_option linter.all false
namespace Go.Proofs.YtpdklolfkigefaaGreatDoor
open Go.Pv Go.RowKit

namespace S
def join (s t : Sp) : Sp :=
  if s.em = true then ⟨t.ln, t.ld, t.hn, t.hd, t.den, s.no || t.no, t.em⟩
  else if t.em = true then ⟨s.ln, s.ld, s.hn, s.hd, s.den, s.no || t.no, s.em⟩
  else ⟨(Q.min (s.ln, s.ld) (t.ln, t.ld)).1, (Q.min (s.ln, s.ld) (t.ln, t.ld)).2, (Q.max (s.hn, s.hd) (t.hn, t.hd)).1, (Q.max (s.hn, s.hd) (t.hn, t.hd)).2, common s.den t.den, s.no || t.no, false⟩
end S
theorem join_eq (a b c d n : Int) (o e : Bool) (a' b' c' d' n' : Int) (o' e' : Bool) (k : Int → Int → Int → Int → Int → Bool → Bool → Option DV) : span_Join a b c d n o e a' b' c' d' n' o' e' k = (S.join (S.known ⟨a, b, c, d, n, o, e⟩) (S.known ⟨a', b', c', d', n', o', e'⟩)).ap k := by
  unfold span_Join B_span_Join S.join ratio_Min ratio_Max
  simp only [known_eq, Sp.ap]
  have hk := S.known_ok ⟨a, b, c, d, n, o, e⟩
  have hk' := S.known_ok ⟨a', b', c', d', n', o', e'⟩
  generalize S.known ⟨a, b, c, d, n, o, e⟩ = s at *
  generalize S.known ⟨a', b', c', d', n', o', e'⟩ = t at *
  simp only [common_eq hk.d0 hk.d1 hk'.d0 hk'.d1]
  cases s.no <;> cases s.em <;> cases h : t.em <;> simp
end Go.Proofs.YtpdklolfkigefaaGreatDoor
