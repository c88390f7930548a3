import Derived.Test.YtnidbhfpkjggmaaGreatDoorQf
import Derived.Laws.BitsLemmas
set_option linter.all false
/-
  Plain mathematics of numbers, part five: binary digits and shifts.
-/
namespace Go.Proofs.YtnidbhfpkjggmaaGreatDoor
namespace Q
/-- The k-th binary digit. -/
def dig (n : Int) (k : Nat) : Int := n / 2 ^ k % 2
/-- The digits joined, the first k of them. -/
def lsum (f : Int → Int → Int) (a b : Int) : Nat → Int
  | 0 => 0
  | k + 1 => lsum f a b k + f (dig a k) (dig b k) * 2 ^ k
def logic (f : Int → Int → Int) (a b : Int) : Int := lsum f a b 32 - f (dig a 32) (dig b 32) * 4294967296

/-- The sum behind k rounds, the last of them the sign's. -/
def part (f : Int → Int → Int) (a b : Int) (k : Nat) : Int := if k ≤ 32 then lsum f a b k else logic f a b
def truth (b : Bool) : Int × Int := if b = true then mk 1 1 else mk 0 1
/-- Comparing by a name. -/
def tst (l : List UInt8) (a b : Int × Int) : Int × Int :=
  if both a b = true then
    (if (l == [108, 116]) = true then truth (decide (cmp a b < 0)) else
     if (l == [108, 101]) = true then truth (decide (cmp a b ≤ 0)) else
     if (l == [101, 113]) = true then truth (cmp a b == 0) else
     if (l == [110, 101]) = true then truth (cmp a b != 0) else (0, 0))
  else (0, 0)
end Q
end Go.Proofs.YtnidbhfpkjggmaaGreatDoor
