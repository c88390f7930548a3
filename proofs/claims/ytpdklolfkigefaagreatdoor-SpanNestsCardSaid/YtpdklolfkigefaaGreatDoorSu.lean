/-
  Spans as plain values: Within: the program's and the specification's readings are the same plain function.
-/
import Derived.Test.YtpdklolfkigefaaGreatDoorSt
set_option linter.all false
namespace Go.Proofs.YtpdklolfkigefaaGreatDoor
open Go.Pv Go.RowKit

namespace S
def within (s t : Sp) : Bool :=
  if (s.no && !t.no) = true then false
  else if (s.em || t.em) = true then s.em
  else (!Q.isq t.ln t.ld || (Q.isq s.ln s.ld && !decide (Q.cmp (s.ln, s.ld) (t.ln, t.ld) < 0))) && (!Q.isq t.hn t.hd || (Q.isq s.hn s.hd && !decide (Q.cmp (s.hn, s.hd) (t.hn, t.hd) > 0))) && (t.den == 0 || (!(s.den == 0) && Int.tmod t.den s.den == 0))
end S
theorem cmp_low {a b c d : Int} (h : Q.isq a b = false) (h2 : Q.isq c d = true) : decide (Q.cmp (a, b) (c, d) < 0) = true := by
  unfold Q.cmp Q.both Q.rank Q.cmpi
  simp [h, h2]
end Go.Proofs.YtpdklolfkigefaaGreatDoor
