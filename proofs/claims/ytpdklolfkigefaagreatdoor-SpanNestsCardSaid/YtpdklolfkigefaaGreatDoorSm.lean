/-
  Spans as plain values; what Make makes of any ends; the law on spans of any ends: its reading is true.
-/
import Derived.Test.YtpdklolfkigefaaGreatDoorPn
import Derived.Test.YtpdklolfkigefaaGreatDoorQv
set_option linter.all false
namespace Go.Proofs.YtpdklolfkigefaaGreatDoor
open Go.Pv Go.RowKit

/-- A span's fields. -/
structure Sp where
  ln : Int
  ld : Int
  hn : Int
  hd : Int
  den : Int
  no : Bool
  em : Bool
def Sp.ap (s : Sp) (k : Int → Int → Int → Int → Int → Bool → Bool → Option DV) : Option DV := k s.ln s.ld s.hn s.hd s.den s.no s.em
set_option maxRecDepth 100000 in
theorem awake_true (k : Bool → Option DV) : serinettelaw03_awake k = k true := by kernel_rfl

namespace S
/-- Ends out of order: both numbers, the lower one the greater. -/
def ooo (a b c d : Int) : Bool := Q.isq c d && decide (Q.cmp (a, b) (c, d) > 0)
def isden (n : Int) : Bool := decide (n ≥ 0) && decide (n ≤ 1073741824)
def make (a b c d n : Int) : Sp :=
  if ooo a b c d = true then ⟨0, 0, 0, 0, 0, false, true⟩ else ⟨(Q.clean (a, b)).1, (Q.clean (a, b)).2, (Q.clean (c, d)).1, (Q.clean (c, d)).2, if isden n = true then n else 0, false, false⟩
end S
theorem counted_eq (a b : Int) (k : Int → Int → Option DV) : span_counted a b k = k (Q.clean (a, b)).1 (Q.clean (a, b)).2 := by
  unfold span_counted B_span_counted ratio_Is Q.clean
  cases h : Q.isq a b <;> simp
theorem isden_eq (n : Int) (k : Bool → Option DV) : span_isDen n k = k (S.isden n) := by
  unfold span_isDen B_span_isDen S.isden
  cases h : decide (n ≥ 0) <;> simp
theorem ooo_eq (a b c d : Int) (k : Bool → Option DV) : span_isOutOfOrder a b c d k = k (S.ooo a b c d) := by
  unfold span_isOutOfOrder B_span_isOutOfOrder S.ooo ratio_Is ratio_Cmp
  cases h : Q.isq c d <;> simp
theorem make_eq (a b c d n : Int) (k : Int → Int → Int → Int → Int → Bool → Bool → Option DV) : span_Make a b c d n k = (S.make a b c d n).ap k := by
  unfold span_Make B_span_Make S.make
  rw [ooo_eq]
  cases h : S.ooo a b c d
  · simp only [cond_false, isden_eq, counted_eq, Bool.false_eq_true, if_false]
    cases hd : S.isden n <;> simp [Sp.ap]
  · simp [Sp.ap, span_nothing, B_span_nothing]
/-- None is below each number. -/
theorem cmp_none {a b c d : Int} (h : Q.isq a b = false) (h2 : Q.isq c d = true) : ¬ Q.cmp (a, b) (c, d) > 0 := by
  unfold Q.cmp Q.both Q.rank Q.cmpi
  simp [h, h2]
theorem beq_self (x : Int) : (x == x) = true := by simp
end Go.Proofs.YtpdklolfkigefaaGreatDoor
