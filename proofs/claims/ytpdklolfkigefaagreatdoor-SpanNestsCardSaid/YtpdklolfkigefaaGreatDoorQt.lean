/-
  Plain mathematics of numbers, part five: binary digits and shifts.
-/
import Derived.Test.YtpdklolfkigefaaGreatDoorQv
import Derived.Laws.BitsLemmas
set_option linter.all false
namespace Go.Proofs.YtpdklolfkigefaaGreatDoor
namespace Q
/-- The k-th binary digit. -/
def dig (n : Int) (k : Nat) : Int := n / 2 ^ k % 2
def land (x y : Int) : Int := x * y
def lor (x y : Int) : Int := x + y - x * y
def lxor (x y : Int) : Int := x + y - 2 * x * y
/-- The digits joined, the first k of them. -/
def lsum (f : Int → Int → Int) (a b : Int) : Nat → Int
  | 0 => 0
  | k + 1 => lsum f a b k + f (dig a k) (dig b k) * 2 ^ k
def logic (f : Int → Int → Int) (a b : Int) : Int := lsum f a b 32 - f (dig a 32) (dig b 32) * 4294967296

theorem ofNat_dig (n : Nat) (k : Nat) : dig (n : Int) k = if n.testBit k then 1 else 0 := by
  unfold dig
  rw [Nat.testBit_eq_decide_div_mod_eq]
  have e : ((n : Int) / 2 ^ k % 2) = ((n / 2 ^ k % 2 : Nat) : Int) := by simp
  rw [e]
  have := Nat.mod_two_eq_zero_or_one (n / 2 ^ k)
  rcases this with h | h <;> simp [h]
/-- A digit of a number is one of its rest by 2^33. -/
theorem dig_emod (n : Int) (k : Nat) (hk : k < 33) : dig n k = dig (n % 8589934592) k := by
  unfold dig
  have e1 : (8589934592 : Int) = 2 ^ k * (2 * 2 ^ (32 - k)) := by
    have : (8589934592 : Int) = 2 ^ 33 := by decide
    rw [this, show (33 : Nat) = k + (1 + (32 - k)) by omega, Int.pow_add, Int.pow_add]; rfl
  have hp : (0 : Int) < 2 ^ k := Int.pow_pos (by decide)
  have e2 := Int.emod_add_mul_ediv n 8589934592
  have e3 : n = n % 8589934592 + 2 ^ k * (2 * (2 ^ (32 - k) * (n / 8589934592))) := by
    have : 2 ^ k * (2 * (2 ^ (32 - k) * (n / 8589934592))) = 8589934592 * (n / 8589934592) := by
      rw [e1]; simp only [Int.mul_assoc]
    rw [this]; omega
  have e4 : ∀ r q : Int, (r + 2 ^ k * (2 * (2 ^ (32 - k) * q))) / 2 ^ k = r / 2 ^ k + 2 * (2 ^ (32 - k) * q) := fun r q => Int.add_mul_ediv_left _ _ (by omega)
  have e5 : n / 2 ^ k = n % 8589934592 / 2 ^ k + 2 * (2 ^ (32 - k) * (n / 8589934592)) := (congrArg (· / (2 : Int) ^ k) e3).trans (e4 _ _)
  rw [e5]; omega
theorem dig_bv (n : Int) (k : Nat) (hk : k < 33) : dig n k = if (BitVec.ofInt 33 n).getLsbD k then 1 else 0 := by
  rw [dig_emod n k hk]
  have e : n % 8589934592 = ((n % 8589934592).toNat : Int) := by omega
  rw [e, ofNat_dig, ← BitVec.testBit_toNat, BitVec.toNat_ofInt]
  rfl
theorem mod_succ (x k : Nat) : ((x % 2 ^ (k + 1) : Nat) : Int) = ((x % 2 ^ k : Nat) : Int) + (if x.testBit k then 1 else 0) * 2 ^ k := by
  rw [Nat.mod_pow_succ, Nat.testBit_eq_decide_div_mod_eq]
  have := Nat.mod_two_eq_zero_or_one (x / 2 ^ k)
  rcases this with h | h <;> simp [h]
theorem lsum_bv (f : Int → Int → Int) (a b : Int) (z : BitVec 33)
    (h : ∀ k, k < 33 → (if z.getLsbD k then (1 : Int) else 0) = f (if (BitVec.ofInt 33 a).getLsbD k then 1 else 0) (if (BitVec.ofInt 33 b).getLsbD k then 1 else 0)) :
    ∀ k, k ≤ 33 → lsum f a b k = ((z.toNat % 2 ^ k : Nat) : Int) := by
  intro k
  induction k with
  | zero => intro _; simp [lsum, Nat.mod_one]
  | succ k ih =>
    intro hk
    rw [lsum, ih (by omega), dig_bv a k (by omega), dig_bv b k (by omega), ← h k (by omega), mod_succ, BitVec.testBit_toNat]
theorem logic_bv (f : Int → Int → Int) (a b : Int) (z : BitVec 33)
    (h : ∀ k, k < 33 → (if z.getLsbD k then (1 : Int) else 0) = f (if (BitVec.ofInt 33 a).getLsbD k then 1 else 0) (if (BitVec.ofInt 33 b).getLsbD k then 1 else 0)) :
    logic f a b = z.toInt := by
  unfold logic
  rw [lsum_bv f a b z h 32 (by omega), dig_bv a 32 (by omega), dig_bv b 32 (by omega), ← h 32 (by omega)]
  have h1 := mod_succ z.toNat 32
  have h2 : z.toNat % 2 ^ (32 + 1) = z.toNat := Nat.mod_eq_of_lt z.isLt
  rw [h2, BitVec.testBit_toNat] at h1
  have h3 : z.toInt = _ := BitVec.toInt_eq_msb_cond z
  rw [h3, BitVec.msb_eq_getLsbD_last]
  simp only [Nat.reducePow, Nat.reduceSub] at h1 ⊢
  rw [h1]
  cases hb : z.getLsbD 32 <;> simp <;> omega
theorem ofInt_ext (a : Int) (ha : -1073741824 ≤ a ∧ a ≤ 1073741824) : BitVec.ofInt 64 a = (BitVec.ofInt 33 a).signExtend 64 := by
  apply BitVec.eq_of_toInt_eq
  rw [BitVec.toInt_signExtend_of_le (by omega), BitVec.toInt_ofInt, BitVec.toInt_ofInt]
  have e1 : (a.bmod (2 ^ 64)) = a := by rw [Int.bmod_eq_of_le] <;> omega
  have e2 : (a.bmod (2 ^ 33)) = a := by rw [Int.bmod_eq_of_le] <;> omega
  rw [e1, e2]
theorem wrap_toNat (x : BitVec 64) : IntKind.i64.wrap x.toNat = x.toInt := by
  rw [IntKind.wrap_i64, BitVec.toInt_eq_toNat_cond]
  have := x.isLt
  split <;> omega
theorem and_logic (a b : Int) (ha : -1073741824 ≤ a ∧ a ≤ 1073741824) (hb : -1073741824 ≤ b ∧ b ≤ 1073741824) : bits .and .i64 a b = logic land a b := by
  rw [logic_bv land a b (BitVec.ofInt 33 a &&& BitVec.ofInt 33 b) ?_]
  · show IntKind.i64.wrap (BitVec.ofInt 64 a &&& BitVec.ofInt 64 b).toNat = _
    rw [wrap_toNat, ofInt_ext a ha, ofInt_ext b hb, ← BitVec.signExtend_and, BitVec.toInt_signExtend_of_le (by omega)]
  · intro k hk
    rw [BitVec.getLsbD_and]; unfold land
    cases (BitVec.ofInt 33 a).getLsbD k <;> cases (BitVec.ofInt 33 b).getLsbD k <;> simp
theorem or_logic (a b : Int) (ha : -1073741824 ≤ a ∧ a ≤ 1073741824) (hb : -1073741824 ≤ b ∧ b ≤ 1073741824) : bits .or .i64 a b = logic lor a b := by
  rw [logic_bv lor a b (BitVec.ofInt 33 a ||| BitVec.ofInt 33 b) ?_]
  · show IntKind.i64.wrap (BitVec.ofInt 64 a ||| BitVec.ofInt 64 b).toNat = _
    rw [wrap_toNat, ofInt_ext a ha, ofInt_ext b hb, ← BitVec.signExtend_or, BitVec.toInt_signExtend_of_le (by omega)]
  · intro k hk
    rw [BitVec.getLsbD_or]; unfold lor
    cases (BitVec.ofInt 33 a).getLsbD k <;> cases (BitVec.ofInt 33 b).getLsbD k <;> simp
theorem xor_logic (a b : Int) (ha : -1073741824 ≤ a ∧ a ≤ 1073741824) (hb : -1073741824 ≤ b ∧ b ≤ 1073741824) : bits .xor .i64 a b = logic lxor a b := by
  rw [logic_bv lxor a b (BitVec.ofInt 33 a ^^^ BitVec.ofInt 33 b) ?_]
  · show IntKind.i64.wrap (BitVec.ofInt 64 a ^^^ BitVec.ofInt 64 b).toNat = _
    rw [wrap_toNat, ofInt_ext a ha, ofInt_ext b hb, ← BitVec.signExtend_xor, BitVec.toInt_signExtend_of_le (by omega)]
  · intro k hk
    rw [BitVec.getLsbD_xor]; unfold lxor
    cases (BitVec.ofInt 33 a).getLsbD k <;> cases (BitVec.ofInt 33 b).getLsbD k <;> simp
theorem mk1 (n : Int) : mk n 1 = if n.natAbs ≤ 1073741824 then (n, 1) else (0, 0) := by
  split
  · rename_i h; exact (mk_one (by omega)).1
  · rename_i h
    unfold mk low
    rw [if_neg (by decide), if_pos]
    left
    have : n.natAbs.gcd (1 : Int).natAbs = 1 := Nat.gcd_one_right _
    rw [this, Nat.div_one]; omega
theorem isq_one {n : Int} : isq n 1 = true ↔ n.natAbs ≤ 1073741824 := by
  rw [isq_iff]
  constructor
  · intro h; omega
  · intro h; exact ⟨by omega, by omega, by omega, by omega, Nat.gcd_one_right _⟩
/-- A whole number doubled k times. -/
def dbl (n : Int) (k : Nat) : Int × Int := if (n * 2 ^ k).natAbs ≤ 1073741824 then (n * 2 ^ k, 1) else (0, 0)
theorem dbl_zero {n : Int} (hn : isq n 1 = true) : dbl n 0 = (n, 1) := by
  unfold dbl; rw [Int.pow_zero, Int.mul_one, if_pos (isq_one.1 hn)]
theorem dbl_succ (n : Int) (k : Nat) : mul (dbl n k) (2, 1) = dbl n (k + 1) := by
  have h2 : isq 2 1 = true := by decide
  have e : n * 2 ^ (k + 1) = n * 2 ^ k * 2 := by rw [Int.pow_succ, Int.mul_assoc]
  unfold dbl
  rw [e]
  generalize n * 2 ^ k = m
  by_cases h : m.natAbs ≤ 1073741824
  · rw [if_pos h]
    unfold mul both
    rw [if_pos (by rw [isq_one.2 h, h2]; rfl)]
    exact mk1 (m * 2)
  · rw [if_neg h, if_neg (by omega)]
    rfl
theorem dbl_min {n : Int} (hn : isq n 1 = true) (p : Nat) : dbl n p = mk (n * 2 ^ Nat.min p 31) 1 := by
  have hb := isq_one.1 hn
  rw [mk1]; unfold dbl
  by_cases hp : p ≤ 31
  · rw [show Nat.min p 31 = p from Nat.min_eq_left hp]
  · rw [show Nat.min p 31 = 31 from Nat.min_eq_right (by omega)]
    by_cases h0 : n = 0
    · subst h0; simp
    · have e : (2 : Int) ^ p = 2 ^ 31 * 2 ^ (p - 31) := by rw [← Int.pow_add]; congr 1; omega
      have h1 : (1 : Int) ≤ 2 ^ (p - 31) := Int.add_one_le_of_lt (Int.pow_pos (by decide))
      have h2 : 1 ≤ ((2 : Int) ^ (p - 31)).natAbs := by omega
      have h3 : 2147483648 ≤ (n * 2 ^ 31).natAbs := by rw [Int.natAbs_mul]; have : ((2 : Int) ^ 31).natAbs = 2147483648 := rfl; rw [this]; have h1n : 1 ≤ n.natAbs := (by omega); omega
      have h4 : 2147483648 ≤ (n * 2 ^ p).natAbs := by
        rw [e, ← Int.mul_assoc, Int.natAbs_mul]
        exact Nat.le_trans h3 (Nat.le_mul_of_pos_right _ (by omega))
      rw [if_neg (by omega), if_neg (by omega)]
theorem half_succ (n : Int) (k : Nat) : n / 2 ^ k / 2 = n / 2 ^ (k + 1) := by
  rw [Int.ediv_ediv_of_nonneg (Int.le_of_lt (Int.pow_pos (by decide))), Int.pow_succ]
theorem shr_bd {n : Int} (h : -1073741824 ≤ n ∧ n ≤ 1073741824) (k : Nat) : -1073741824 ≤ n / 2 ^ k ∧ n / 2 ^ k ≤ 1073741824 := by
  have h1 : (1 : Int) ≤ 2 ^ k := Int.add_one_le_of_lt (Int.pow_pos (by decide))
  constructor
  · apply Int.le_ediv_of_mul_le (by omega)
    have : -1073741824 * (2 : Int) ^ k ≤ -1073741824 := by omega
    omega
  · apply Int.ediv_le_of_le_mul (by omega)
    have : 1073741824 ≤ 1073741824 * (2 : Int) ^ k := by omega
    omega
theorem dig_01 (n : Int) (k : Nat) : dig n k = 0 ∨ dig n k = 1 := by unfold dig; omega
theorem lsum_bd (f : Int → Int → Int) (hf : ∀ x y : Int, (x = 0 ∨ x = 1) → (y = 0 ∨ y = 1) → (f x y = 0 ∨ f x y = 1)) (a b : Int) : ∀ k : Nat, 0 ≤ lsum f a b k ∧ lsum f a b k < 2 ^ k
  | 0 => by simp [lsum]
  | k + 1 => by
    have ih := lsum_bd f hf a b k
    rw [lsum, Int.pow_succ]
    rcases hf _ _ (dig_01 a k) (dig_01 b k) with h | h <;> rw [h] <;> omega
theorem land_01 : ∀ x y : Int, (x = 0 ∨ x = 1) → (y = 0 ∨ y = 1) → (land x y = 0 ∨ land x y = 1) := by
  rintro x y (rfl | rfl) (rfl | rfl) <;> decide
theorem lor_01 : ∀ x y : Int, (x = 0 ∨ x = 1) → (y = 0 ∨ y = 1) → (lor x y = 0 ∨ lor x y = 1) := by
  rintro x y (rfl | rfl) (rfl | rfl) <;> decide
theorem lxor_01 : ∀ x y : Int, (x = 0 ∨ x = 1) → (y = 0 ∨ y = 1) → (lxor x y = 0 ∨ lxor x y = 1) := by
  rintro x y (rfl | rfl) (rfl | rfl) <;> decide
theorem logic_bd (f : Int → Int → Int) (hf : ∀ x y : Int, (x = 0 ∨ x = 1) → (y = 0 ∨ y = 1) → (f x y = 0 ∨ f x y = 1)) (a b : Int) : -4294967296 ≤ logic f a b ∧ logic f a b ≤ 4294967296 := by
  have h1 := lsum_bd f hf a b 32
  have h2 : ((2 : Int) ^ 32) = 4294967296 := by decide
  unfold logic
  rcases hf _ _ (dig_01 a 32) (dig_01 b 32) with h | h <;> rw [h] <;> omega
theorem two_pow_bd (k : Nat) (hk : k ≤ 32) : (1 : Int) ≤ 2 ^ k ∧ (2 : Int) ^ k ≤ 4294967296 := by
  have h1 : (1 : Int) ≤ 2 ^ k := Int.add_one_le_of_lt (Int.pow_pos (by decide))
  have e : (4294967296 : Int) = 2 ^ k * 2 ^ (32 - k) := by rw [← Int.pow_add, show k + (32 - k) = 32 by omega]; decide
  have h2 : (1 : Int) ≤ 2 ^ (32 - k) := Int.add_one_le_of_lt (Int.pow_pos (by decide))
  have h3 : (2 : Int) ^ k * 1 ≤ 2 ^ k * 2 ^ (32 - k) := Int.mul_le_mul_of_nonneg_left h2 (by omega)
  exact ⟨h1, by rw [e]; omega⟩
/-- The sum behind k rounds, the last of them the sign's. -/
def part (f : Int → Int → Int) (a b : Int) (k : Nat) : Int := if k ≤ 32 then lsum f a b k else logic f a b
def truth (b : Bool) : Int × Int := if b = true then mk 1 1 else mk 0 1
/-- Comparing by a name. -/
def tst (l : List UInt8) (a b : Int × Int) : Int × Int :=
  if both a b = true then
    (if (l == [108, 116]) = true then truth (decide (cmp a b < 0)) else
     if (l == [108, 101]) = true then truth (decide (cmp a b ≤ 0)) else
     if (l == [101, 113]) = true then truth (cmp a b == 0) else
     if (l == [110, 101]) = true then truth (cmp a b != 0) else (0, 0))
  else (0, 0)
/-- Shifts: to the right, or to the left. -/
def sh (right : Bool) (n p : Int) : Int × Int :=
  if p < 0 ∨ 62 < p then (0, 0) else if right = true then mk (n / 2 ^ p.toNat) 1 else dbl n p.toNat
/-- Binary digits by a name. -/
def bts (l : List UInt8) (a b : Int × Int) : Int × Int :=
  if (both a b && a.2 == 1 && b.2 == 1) = true then
    (if (l == [97, 110, 100]) = true then mk (logic land a.1 b.1) 1 else
     if (l == [111, 114]) = true then mk (logic lor a.1 b.1) 1 else
     if (l == [120, 111, 114]) = true then mk (logic lxor a.1 b.1) 1 else
     if (l == [115, 104, 108]) = true then sh false a.1 b.1 else
     if (l == [115, 104, 114]) = true then sh true a.1 b.1 else (0, 0))
  else (0, 0)
end Q
end Go.Proofs.YtpdklolfkigefaaGreatDoor
