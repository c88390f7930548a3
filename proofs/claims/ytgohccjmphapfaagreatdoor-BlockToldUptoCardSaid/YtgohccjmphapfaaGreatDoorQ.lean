set_option linter.all false
noncomputable section
namespace Go.Proofs.YtgohccjmphapfaaGreatDoor
namespace Q
def isq (n d : Int) : Bool := decide (-1073741824 ≤ n ∧ n ≤ 1073741824 ∧ 1 ≤ d ∧ d ≤ 1073741824 ∧ n.natAbs.gcd d.natAbs = 1)
def low (s : Bool) (n d : Nat) : Int × Int :=
 if d = 0 then (0, 0) else
 if n / n.gcd d > 1073741824 ∨ d / n.gcd d > 1073741824 then (0, 0) else
 (if s then -((n / n.gcd d : Nat) : Int) else ((n / n.gcd d : Nat) : Int), ((d / n.gcd d : Nat) : Int))
def mk (n d : Int) : Int × Int := low (decide (n < 0) != decide (d < 0)) n.natAbs d.natAbs
def both (a b : Int × Int) : Bool := isq a.1 a.2 && isq b.1 b.2
def add (a b : Int × Int) : Int × Int := if both a b = true then mk (a.1 * b.2 + b.1 * a.2) (a.2 * b.2) else (0, 0)
def sub (a b : Int × Int) : Int × Int := if both a b = true then mk (a.1 * b.2 - b.1 * a.2) (a.2 * b.2) else (0, 0)
theorem isq_iff (n d : Int) : isq n d = true ↔ (-1073741824 ≤ n ∧ n ≤ 1073741824 ∧ 1 ≤ d ∧ d ≤ 1073741824 ∧ n.natAbs.gcd d.natAbs = 1) := by
 unfold isq; exact decide_eq_true_iff
theorem mul_bd (x y : Int) (hx : -1073741824 ≤ x ∧ x ≤ 1073741824) (hy : -1073741824 ≤ y ∧ y ≤ 1073741824) :
  -1152921504606846976 ≤ x * y ∧ x * y ≤ 1152921504606846976 := by
 have h : (x * y).natAbs ≤ 1073741824 * 1073741824 := by
  rw [Int.natAbs_mul]; exact Nat.mul_le_mul (by omega) (by omega)
 omega
structure Bd (an ad bn bd : Int) : Prop where
 a1 : -1073741824 ≤ an ∧ an ≤ 1073741824
 a2 : 1 ≤ ad ∧ ad ≤ 1073741824
 b1 : -1073741824 ≤ bn ∧ bn ≤ 1073741824
 b2 : 1 ≤ bd ∧ bd ≤ 1073741824
 nn : -1152921504606846976 ≤ an * bn ∧ an * bn ≤ 1152921504606846976
 nd : -1152921504606846976 ≤ an * bd ∧ an * bd ≤ 1152921504606846976
 dn : -1152921504606846976 ≤ bn * ad ∧ bn * ad ≤ 1152921504606846976
 dn' : -1152921504606846976 ≤ ad * bn ∧ ad * bn ≤ 1152921504606846976
 dd : 1 ≤ ad * bd ∧ ad * bd ≤ 1152921504606846976
end Q
end Go.Proofs.YtgohccjmphapfaaGreatDoor
end
