import Derived.Test.YtiiddikiaafanaaGreatDoorQf
import Derived.Laws.BitsLemmas
set_option linter.all false
/-
  Plain mathematics of numbers, part five: binary digits and shifts.
-/
namespace Go.Proofs.YtiiddikiaafanaaGreatDoor
namespace Q
/-- The k-th binary digit. -/
def dig (n : Int) (k : Nat) : Int := n / 2 ^ k % 2
def land (x y : Int) : Int := x * y
def lor (x y : Int) : Int := x + y - x * y
def lxor (x y : Int) : Int := x + y - 2 * x * y
/-- The digits joined, the first k of them. -/
def lsum (f : Int → Int → Int) (a b : Int) : Nat → Int
  | 0 => 0
  | k + 1 => lsum f a b k + f (dig a k) (dig b k) * 2 ^ k
def logic (f : Int → Int → Int) (a b : Int) : Int := lsum f a b 32 - f (dig a 32) (dig b 32) * 4294967296

theorem mk1 (n : Int) : mk n 1 = if n.natAbs ≤ 1073741824 then (n, 1) else (0, 0) := by
  split
  · rename_i h; exact (mk_one (by omega)).1
  · rename_i h
    unfold mk low
    rw [if_neg (by decide), if_pos]
    left
    have : n.natAbs.gcd (1 : Int).natAbs = 1 := Nat.gcd_one_right _
    rw [this, Nat.div_one]; omega
theorem isq_one {n : Int} : isq n 1 = true ↔ n.natAbs ≤ 1073741824 := by
  rw [isq_iff]
  constructor
  · intro h; omega
  · intro h; exact ⟨by omega, by omega, by omega, by omega, Nat.gcd_one_right _⟩
/-- A whole number doubled k times. -/
def dbl (n : Int) (k : Nat) : Int × Int := if (n * 2 ^ k).natAbs ≤ 1073741824 then (n * 2 ^ k, 1) else (0, 0)
theorem dbl_zero {n : Int} (hn : isq n 1 = true) : dbl n 0 = (n, 1) := by
  unfold dbl; rw [Int.pow_zero, Int.mul_one, if_pos (isq_one.1 hn)]
theorem dbl_succ (n : Int) (k : Nat) : mul (dbl n k) (2, 1) = dbl n (k + 1) := by
  have h2 : isq 2 1 = true := by decide
  have e : n * 2 ^ (k + 1) = n * 2 ^ k * 2 := by rw [Int.pow_succ, Int.mul_assoc]
  unfold dbl
  rw [e]
  generalize n * 2 ^ k = m
  by_cases h : m.natAbs ≤ 1073741824
  · rw [if_pos h]
    unfold mul both
    rw [if_pos (by rw [isq_one.2 h, h2]; rfl)]
    exact mk1 (m * 2)
  · rw [if_neg h, if_neg (by omega)]
    rfl
theorem half_succ (n : Int) (k : Nat) : n / 2 ^ k / 2 = n / 2 ^ (k + 1) := by
  rw [Int.ediv_ediv_of_nonneg (Int.le_of_lt (Int.pow_pos (by decide))), Int.pow_succ]
theorem shr_bd {n : Int} (h : -1073741824 ≤ n ∧ n ≤ 1073741824) (k : Nat) : -1073741824 ≤ n / 2 ^ k ∧ n / 2 ^ k ≤ 1073741824 := by
  have h1 : (1 : Int) ≤ 2 ^ k := Int.add_one_le_of_lt (Int.pow_pos (by decide))
  constructor
  · apply Int.le_ediv_of_mul_le (by omega)
    have : -1073741824 * (2 : Int) ^ k ≤ -1073741824 := by omega
    omega
  · apply Int.ediv_le_of_le_mul (by omega)
    have : 1073741824 ≤ 1073741824 * (2 : Int) ^ k := by omega
    omega
theorem dig_01 (n : Int) (k : Nat) : dig n k = 0 ∨ dig n k = 1 := by unfold dig; omega
theorem lsum_bd (f : Int → Int → Int) (hf : ∀ x y : Int, (x = 0 ∨ x = 1) → (y = 0 ∨ y = 1) → (f x y = 0 ∨ f x y = 1)) (a b : Int) : ∀ k : Nat, 0 ≤ lsum f a b k ∧ lsum f a b k < 2 ^ k
  | 0 => by simp [lsum]
  | k + 1 => by
    have ih := lsum_bd f hf a b k
    rw [lsum, Int.pow_succ]
    rcases hf _ _ (dig_01 a k) (dig_01 b k) with h | h <;> rw [h] <;> omega
theorem land_01 : ∀ x y : Int, (x = 0 ∨ x = 1) → (y = 0 ∨ y = 1) → (land x y = 0 ∨ land x y = 1) := by
  rintro x y (rfl | rfl) (rfl | rfl) <;> decide
theorem lor_01 : ∀ x y : Int, (x = 0 ∨ x = 1) → (y = 0 ∨ y = 1) → (lor x y = 0 ∨ lor x y = 1) := by
  rintro x y (rfl | rfl) (rfl | rfl) <;> decide
theorem lxor_01 : ∀ x y : Int, (x = 0 ∨ x = 1) → (y = 0 ∨ y = 1) → (lxor x y = 0 ∨ lxor x y = 1) := by
  rintro x y (rfl | rfl) (rfl | rfl) <;> decide
theorem logic_bd (f : Int → Int → Int) (hf : ∀ x y : Int, (x = 0 ∨ x = 1) → (y = 0 ∨ y = 1) → (f x y = 0 ∨ f x y = 1)) (a b : Int) : -4294967296 ≤ logic f a b ∧ logic f a b ≤ 4294967296 := by
  have h1 := lsum_bd f hf a b 32
  have h2 : ((2 : Int) ^ 32) = 4294967296 := by decide
  unfold logic
  rcases hf _ _ (dig_01 a 32) (dig_01 b 32) with h | h <;> rw [h] <;> omega
theorem two_pow_bd (k : Nat) (hk : k ≤ 32) : (1 : Int) ≤ 2 ^ k ∧ (2 : Int) ^ k ≤ 4294967296 := by
  have h1 : (1 : Int) ≤ 2 ^ k := Int.add_one_le_of_lt (Int.pow_pos (by decide))
  have e : (4294967296 : Int) = 2 ^ k * 2 ^ (32 - k) := by rw [← Int.pow_add, show k + (32 - k) = 32 by omega]; decide
  have h2 : (1 : Int) ≤ 2 ^ (32 - k) := Int.add_one_le_of_lt (Int.pow_pos (by decide))
  have h3 : (2 : Int) ^ k * 1 ≤ 2 ^ k * 2 ^ (32 - k) := Int.mul_le_mul_of_nonneg_left h2 (by omega)
  exact ⟨h1, by rw [e]; omega⟩
/-- The sum behind k rounds, the last of them the sign's. -/
def part (f : Int → Int → Int) (a b : Int) (k : Nat) : Int := if k ≤ 32 then lsum f a b k else logic f a b
def truth (b : Bool) : Int × Int := if b = true then mk 1 1 else mk 0 1
/-- Comparing by a name. -/
def tst (l : List UInt8) (a b : Int × Int) : Int × Int :=
  if both a b = true then
    (if (l == [108, 116]) = true then truth (decide (cmp a b < 0)) else
     if (l == [108, 101]) = true then truth (decide (cmp a b ≤ 0)) else
     if (l == [101, 113]) = true then truth (cmp a b == 0) else
     if (l == [110, 101]) = true then truth (cmp a b != 0) else (0, 0))
  else (0, 0)
/-- Shifts: to the right, or to the left. -/
def sh (right : Bool) (n p : Int) : Int × Int :=
  if p < 0 ∨ 62 < p then (0, 0) else if right = true then mk (n / 2 ^ p.toNat) 1 else dbl n p.toNat
/-- Binary digits by a name. -/
def bts (l : List UInt8) (a b : Int × Int) : Int × Int :=
  if (both a b && a.2 == 1 && b.2 == 1) = true then
    (if (l == [97, 110, 100]) = true then mk (logic land a.1 b.1) 1 else
     if (l == [111, 114]) = true then mk (logic lor a.1 b.1) 1 else
     if (l == [120, 111, 114]) = true then mk (logic lxor a.1 b.1) 1 else
     if (l == [115, 104, 108]) = true then sh false a.1 b.1 else
     if (l == [115, 104, 114]) = true then sh true a.1 b.1 else (0, 0))
  else (0, 0)
end Q
end Go.Proofs.YtiiddikiaafanaaGreatDoor
