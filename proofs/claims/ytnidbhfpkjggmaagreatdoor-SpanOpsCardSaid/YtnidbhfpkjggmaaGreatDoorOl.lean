/-
  Exact comparing of fractions: by products of 128 bits, and by whole parts and rests turned over: both are that of the cross products.
-/
import Derived.Test.YtnidbhfpkjggmaaGreatDoorOk
set_option linter.all false
namespace Go.Proofs.YtnidbhfpkjggmaaGreatDoor
open Go.Pv Go.RowKit

theorem mask32 {a : Int} (h : 0 ≤ a ∧ a ≤ 18446744073709551615) : IntKind.wrap .u64 ((BitVec.toNat (BitVec.ofInt (IntKind.bits .u64) a &&& BitVec.ofInt (IntKind.bits .u64) 4294967295) : Nat)) = a % 4294967296 := by
  obtain ⟨n, rfl⟩ := nat_of h.1
  have e : (BitVec.toNat (BitVec.ofInt (IntKind.bits .u64) (n : Int) &&& BitVec.ofInt (IntKind.bits .u64) 4294967295) : Nat) = n % 4294967296 := by
    have hb : IntKind.bits .u64 = 64 := rfl
    rw [hb, BitVec.toNat_and]
    have e1 : (BitVec.ofInt 64 (n : Int)).toNat = n := by
      rw [BitVec.toNat_ofInt]; omega
    have e2 : (BitVec.ofInt 64 (4294967295 : Int)).toNat = 2 ^ 32 - 1 := by decide
    rw [e1, e2, Nat.and_two_pow_sub_one_eq_mod]
  rw [e]
  exact (IntWalk.u64_in _ (by omega)).trans (by omega)
theorem mul64_eq {a b : Int} (ha : 0 ≤ a ∧ a ≤ 4611686018427387904) (hb : 0 ≤ b ∧ b ≤ 1152921504606846976) (k : Int → Int → Option DV) : bits_Mul64 a b k = k (a * b / 18446744073709551616) (a * b % 18446744073709551616) := by
  unfold bits_Mul64 B_bits_Mul64
  have hs : ∀ x : Int, Int.fdiv x (2 ^ (min (Int.toNat 32) (IntKind.bits .u64))) = x / 4294967296 := by
    intro x
    have : (2 : Int) ^ (min (Int.toNat 32) (IntKind.bits .u64)) = 4294967296 := by decide
    rw [this, Int.fdiv_eq_ediv_of_nonneg _ (by omega)]
  have ma := mask32 (a := a) (by omega)
  have mb := mask32 (a := b) (by omega)
  simp only [hs, ma, mb]
  generalize ea1 : a / 4294967296 = a1
  generalize ea0 : a % 4294967296 = a0
  generalize eb1 : b / 4294967296 = b1
  generalize eb0 : b % 4294967296 = b0
  have h1 : 0 ≤ a1 ∧ a1 ≤ 1073741824 := by omega
  have h0 : 0 ≤ a0 ∧ a0 ≤ 4294967295 := by omega
  have g1 : 0 ≤ b1 ∧ b1 ≤ 268435456 := by omega
  have g0 : 0 ≤ b0 ∧ b0 ≤ 4294967295 := by omega
  have pos : ∀ x y X Y : Int, 0 ≤ x ∧ x ≤ X → 0 ≤ y ∧ y ≤ Y → 0 ≤ X → 0 ≤ x * y ∧ x * y ≤ X * Y := by
    intro x y X Y hx hy hX
    refine ⟨Int.mul_nonneg hx.1 hy.1, ?_⟩
    have c1 : x * y ≤ X * y := Int.mul_le_mul_of_nonneg_right hx.2 hy.1
    have c2 : X * y ≤ X * Y := Int.mul_le_mul_of_nonneg_left hy.2 hX
    omega
  have A := pos a1 b1 _ _ h1 g1 (by omega)
  have B := pos a1 b0 _ _ h1 g0 (by omega)
  have C := pos a0 b1 _ _ h0 g1 (by omega)
  have D := pos a0 b0 _ _ h0 g0 (by omega)
  have hab : a * b = a1 * b1 * 18446744073709551616 + (a1 * b0 + a0 * b1) * 4294967296 + a0 * b0 := by
    have x1 : a = a1 * 4294967296 + a0 := by omega
    have x2 : b = b1 * 4294967296 + b0 := by omega
    rw [x1, x2]
    simp only [Int.add_mul, Int.mul_add]
    have y1 : a1 * 4294967296 * (b1 * 4294967296) = a1 * b1 * 18446744073709551616 := by
      rw [Int.mul_assoc a1, Int.mul_left_comm 4294967296 b1, ← Int.mul_assoc a1 b1]; rfl
    have y2 : a1 * 4294967296 * b0 = a1 * b0 * 4294967296 := Int.mul_right_comm _ _ _
    have y3 : a0 * (b1 * 4294967296) = a0 * b1 * 4294967296 := (Int.mul_assoc _ _ _).symm
    rw [y1, y2, y3]; omega
  generalize a1 * b1 = pA at *
  generalize a1 * b0 = pB at *
  generalize a0 * b1 = pC at *
  generalize a0 * b0 = pD at *
  generalize a * b = pr at *
  have w0 : IntKind.wrap .u64 pA = pA := IntWalk.u64_in _ (by omega)
  have w1 : IntKind.wrap .u64 pB = pB := IntWalk.u64_in _ (by omega)
  have w2 : IntKind.wrap .u64 pC = pC := IntWalk.u64_in _ (by omega)
  have w3 : IntKind.wrap .u64 pD = pD := IntWalk.u64_in _ (by omega)
  have w4 : IntKind.wrap .u64 (pB + pD / 4294967296) = pB + pD / 4294967296 := IntWalk.u64_in _ (by omega)
  simp only [w0, w1, w2, w3, w4]
  have m4 := mask32 (a := pB + pD / 4294967296) (by omega)
  simp only [m4]
  have w5 : IntKind.wrap .u64 ((pB + pD / 4294967296) % 4294967296 + pC) = (pB + pD / 4294967296) % 4294967296 + pC := IntWalk.u64_in _ (by omega)
  have w6 : IntKind.wrap .u64 (pA + (pB + pD / 4294967296) / 4294967296) = pA + (pB + pD / 4294967296) / 4294967296 := IntWalk.u64_in _ (by omega)
  simp only [w5, w6]
  have w7 : IntKind.wrap .u64 (pA + (pB + pD / 4294967296) / 4294967296 + ((pB + pD / 4294967296) % 4294967296 + pC) / 4294967296) = pr / 18446744073709551616 := by
    rw [IntWalk.u64_in _ (by omega)]; omega
  have w8 : IntKind.wrap .u64 pr = pr % 18446744073709551616 := by
    simp [IntKind.wrap, IntKind.bits, IntKind.signed]
  rw [w7, w8]
theorem nan_u64 (x : Int) (k : Bool → Option DV) : cmp_isNaN_uint64 x k = k false := by
  unfold cmp_isNaN_uint64 B_cmp_isNaN_uint64
  simp
theorem compare_u64 (x y : Int) (k : Int → Option DV) : cmp_Compare_uint64 x y k = k (Q.cmpi x y) := by
  unfold cmp_Compare_uint64 B_cmp_Compare_uint64 Q.cmpi
  simp only [nan_u64, cond_false]
  by_cases h : x < y
  · simp [h]
  · by_cases h2 : y < x <;> simp [h, h2]
/-- By high and low parts. -/
theorem cmpi_parts {x y : Int} : (if Q.cmpi (x / 18446744073709551616) (y / 18446744073709551616) ≠ 0 then Q.cmpi (x / 18446744073709551616) (y / 18446744073709551616) else Q.cmpi (x % 18446744073709551616) (y % 18446744073709551616)) = Q.cmpi x y := by
  unfold Q.cmpi
  repeat' split
  all_goals omega
theorem or_eq (x y : Int) (k : Int → Option DV) : cmp_Or_int_n2 x y k = k (if x ≠ 0 then x else y) := by
  unfold cmp_Or_int_n2 B_cmp_Or_int_n2
  by_cases h : x = 0
  · by_cases h2 : y = 0
    · simp [h, h2]
    · have e : (y != 0) = true := by simp [h2]
      simp [h, e]
  · have e : (x != 0) = true := by simp [h]
    simp [h, e]
theorem size_eq {a : Int} (h : -4611686018427387904 ≤ a ∧ a ≤ 4611686018427387904) (k : Int → Option DV) : span_size a k = k (a.natAbs : Int) := by
  unfold span_size B_span_size
  rw [Int.zero_sub, IntWalk.i64_in (-a) (by omega)]
  have e1 : (if -a > a then -a else a) = (a.natAbs : Int) := by split <;> omega
  rw [e1, IntWalk.u64_in _ (by omega)]
theorem cmpi_neg_neg (x y : Int) : Q.cmpi (-x) (-y) = -Q.cmpi x y := by
  unfold Q.cmpi
  repeat' split
  all_goals omega
theorem cmpi_01 (x y : Int) : -1 ≤ Q.cmpi x y ∧ Q.cmpi x y ≤ 1 := by
  unfold Q.cmpi
  repeat' split
  all_goals omega
theorem compare_eq {a b c d : Int} (ha : -4611686018427387904 ≤ a ∧ a ≤ 4611686018427387904) (hb : 1 ≤ b ∧ b ≤ 1152921504606846976) (hc : -4611686018427387904 ≤ c ∧ c ≤ 4611686018427387904) (hd : 1 ≤ d ∧ d ≤ 1152921504606846976) (k : Int → Option DV) :
    span_compare a b c d k = k (Q.cmpi (a * d) (c * b)) := by
  unfold span_compare B_span_compare cmp_Compare_int64
  have w1 : IntKind.wrap .u64 d = d := IntWalk.u64_in _ (by omega)
  have w2 : IntKind.wrap .u64 b = b := IntWalk.u64_in _ (by omega)
  simp only [w1, w2, size_eq ha, size_eq hc, mul64_eq (a := (a.natAbs : Int)) (b := d) (by omega) (by omega), mul64_eq (a := (c.natAbs : Int)) (b := b) (by omega) (by omega), compare_u64, or_eq, cmpi_parts]
  by_cases h1 : a < 0 <;> by_cases h2 : c < 0
  · have e1 : (a.natAbs : Int) * d = -(a * d) := by rw [← Int.neg_mul]; congr 1; omega
    have e2 : (c.natAbs : Int) * b = -(c * b) := by rw [← Int.neg_mul]; congr 1; omega
    have hr := cmpi_01 (a * d) (c * b)
    rw [e1, e2, cmpi_neg_neg]
    have w : IntKind.wrap .i64 (Q.cmpi (a * d) (c * b)) = Q.cmpi (a * d) (c * b) := IntWalk.i64_in _ (by omega)
    simp [h1, h2, w]
  · have e1 : a * d < 0 := Int.mul_neg_of_neg_of_pos h1 (by omega)
    have e2 : 0 ≤ c * b := Int.mul_nonneg (by omega) (by omega)
    have c1 : Q.cmpi a c = -1 := by unfold Q.cmpi; rw [if_pos (by omega)]
    have c2 : Q.cmpi (a * d) (c * b) = -1 := by unfold Q.cmpi; rw [if_pos (by omega)]
    simp [h1, h2, c1, c2]
  · have e1 : c * b < 0 := Int.mul_neg_of_neg_of_pos h2 (by omega)
    have e2 : 0 ≤ a * d := Int.mul_nonneg (by omega) (by omega)
    have c1 : Q.cmpi a c = 1 := by unfold Q.cmpi; rw [if_neg (by omega), if_pos (by omega)]
    have c2 : Q.cmpi (a * d) (c * b) = 1 := by unfold Q.cmpi; rw [if_neg (by omega), if_pos (by omega)]
    simp [h1, h2, c1, c2]
  · have e1 : (a.natAbs : Int) = a := by omega
    have e2 : (c.natAbs : Int) = c := by omega
    rw [e1, e2]
    simp [h1, h2]
end Go.Proofs.YtnidbhfpkjggmaaGreatDoor
