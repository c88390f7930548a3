import Derived.WalkKit
import Derived.Lib.Hide
import Derived.Lib.BitFns
import Derived.Lib.ItoaNum
set_option linter.all false
/-
  Plain mathematics of dividing two digits by one, by digits of half the width. No program, no memory.
-/
namespace Go.Proofs.YtiiddikiaafanaaGreatDoor
open Go.RowKit
namespace Z
/-- What is kept around the loop: y = a 2^32 + b is large, u below y, c a digit; q is not too small. -/
structure DS (y a b u c : Int) : Prop where
  y1 : 9223372036854775808 ≤ y
  y2 : y < 18446744073709551616
  e : y = a * 4294967296 + b
  a1 : 2147483648 ≤ a
  a2 : a < 4294967296
  b1 : 0 ≤ b
  b2 : b < 4294967296
  u1 : 0 ≤ u
  u2 : u < y
  c1 : 0 ≤ c
  c2 : c < 4294967296
theorem ds_of (y u c : Int) (y1 : 9223372036854775808 ≤ y) (y2 : y < 18446744073709551616) (u1 : 0 ≤ u) (u2 : u < y) (c1 : 0 ≤ c) (c2 : c < 4294967296) : DS y (y / 4294967296) (y % 4294967296) u c := by
  constructor <;> omega
structure DI (y a b u c q r : Int) : Prop where
  q0 : 0 ≤ q
  lo : (u * 4294967296 + c) / y ≤ q
  eq : q * a + r = u
  r0 : 0 ≤ r
  r1 : r < 4294967296
  hi : q ≤ 4294967297
theorem ds_Q {y a b u c : Int} (h : DS y a b u c) : 0 ≤ (u * 4294967296 + c) / y ∧ (u * 4294967296 + c) / y < 4294967296 := by
  obtain ⟨y1, y2, e, a1, a2, b1, b2, u1, u2, c1, c2⟩ := h
  constructor
  · exact Int.ediv_nonneg (by omega) (by omega)
  · rw [Int.ediv_lt_iff_lt_mul (by omega)]; omega
theorem ds_init {y a b u c : Int} (h : DS y a b u c) : DI y a b u c (u / a) (u - u / a * a) := by
  have hQ := ds_Q h
  obtain ⟨y1, y2, e, a1, a2, b1, b2, u1, u2, c1, c2⟩ := h
  have h1 := Int.mul_ediv_add_emod u a
  have h2 := Int.emod_nonneg u (show a ≠ 0 by omega)
  have h3 := Int.emod_lt_of_pos u (show 0 < a by omega)
  have hc : u / a * a = a * (u / a) := Int.mul_comm _ _
  refine ⟨Int.ediv_nonneg u1 (by omega), ?_, by omega, by omega, by omega, ?_⟩
  · rw [Int.le_ediv_iff_mul_le (by omega)]
    have h4 := Int.ediv_mul_le (u * 4294967296 + c) (show y ≠ 0 by omega)
    generalize (u * 4294967296 + c) / y = Q at *
    have h5 : Q * y = Q * a * 4294967296 + Q * b := by rw [e, Int.mul_add, Int.mul_assoc]
    have h6 : 0 ≤ Q * b := Int.mul_nonneg hQ.1 b1
    omega
  · apply Classical.byContradiction
    intro hn
    have h4 : 4294967298 * a ≤ u / a * a := Int.mul_le_mul_of_nonneg_right (by omega) (by omega)
    omega
theorem ds_stop {y a b u c q r : Int} (h : DS y a b u c) (hi : DI y a b u c q r) (hc : q * b ≤ 4294967296 * r + c) : q = (u * 4294967296 + c) / y := by
  obtain ⟨y1, y2, e, a1, a2, b1, b2, u1, u2, c1, c2⟩ := h
  obtain ⟨q0, lo, eq, r0, r1, hi⟩ := hi
  have : q ≤ (u * 4294967296 + c) / y := by
    rw [Int.le_ediv_iff_mul_le (by omega)]
    have h5 : q * y = q * a * 4294967296 + q * b := by rw [e, Int.mul_add, Int.mul_assoc]
    omega
  omega
theorem ds_gt {y a b u c q r : Int} (h : DS y a b u c) (hi : DI y a b u c q r) (hc : 4294967296 ≤ q ∨ 4294967296 * r + c < q * b) : (u * 4294967296 + c) / y + 1 ≤ q := by
  have hQ := ds_Q h
  obtain ⟨y1, y2, e, a1, a2, b1, b2, u1, u2, c1, c2⟩ := h
  obtain ⟨q0, lo, eq, r0, r1, hi⟩ := hi
  rcases hc with hc | hc
  · omega
  · have : (u * 4294967296 + c) / y < q := by
      rw [Int.ediv_lt_iff_lt_mul (by omega)]
      have h5 : q * y = q * a * 4294967296 + q * b := by rw [e, Int.mul_add, Int.mul_assoc]
      omega
    omega
theorem ds_next {y a b u c q r : Int} (h : DS y a b u c) (hi : DI y a b u c q r) (hc : 4294967296 ≤ q ∨ 4294967296 * r + c < q * b) (hr : r + a < 4294967296) : DI y a b u c (q - 1) (r + a) := by
  have := ds_gt h hi hc
  have hQ := ds_Q h
  obtain ⟨y1, y2, e, a1, a2, b1, b2, u1, u2, c1, c2⟩ := h
  obtain ⟨q0, lo, eq, r0, r1, hi⟩ := hi
  refine ⟨by omega, by omega, ?_, by omega, by omega, by omega⟩
  rw [Int.sub_mul]; omega
theorem ds_break {y a b u c q r : Int} (h : DS y a b u c) (hi : DI y a b u c q r) (hc : 4294967296 ≤ q ∨ 4294967296 * r + c < q * b) (hr : 4294967296 ≤ r + a) : q - 1 = (u * 4294967296 + c) / y := by
  have := ds_gt h hi hc
  have hQ := ds_Q h
  obtain ⟨y1, y2, e, a1, a2, b1, b2, u1, u2, c1, c2⟩ := h
  obtain ⟨q0, lo, eq, r0, r1, hi⟩ := hi
  have : q - 1 ≤ (u * 4294967296 + c) / y := by
    rw [Int.le_ediv_iff_mul_le (by omega)]
    have h5 : (q - 1) * y = (q - 1) * a * 4294967296 + (q - 1) * b := by rw [e, Int.mul_add, Int.mul_assoc]
    have h6 : (q - 1) * a = q * a - a := by rw [Int.sub_mul, Int.one_mul]
    have h7 : (q - 1) * b ≤ 4294967296 * b := Int.mul_le_mul_of_nonneg_right (by omega) b1
    omega
  omega
/-- No overflow in the test. -/
theorem ds_fit {y a b u c q r : Int} (h : DS y a b u c) (hi : DI y a b u c q r) (hq : q < 4294967296) : 0 ≤ q * b ∧ q * b < 18446744073709551616 := by
  obtain ⟨y1, y2, e, a1, a2, b1, b2, u1, u2, c1, c2⟩ := h
  obtain ⟨q0, lo, eq, r0, r1, hi⟩ := hi
  have h7 : q * b ≤ 4294967296 * b := Int.mul_le_mul_of_nonneg_right (by omega) b1
  exact ⟨Int.mul_nonneg q0 b1, by omega⟩
/-- The rest, reckoned in 64 bits. -/
theorem ds_rest {y a b u c : Int} (h : DS y a b u c) : (u * 4294967296 + c - (u * 4294967296 + c) / y * y) % 18446744073709551616 = (u * 4294967296 + c) % y := by
  obtain ⟨y1, y2, e, a1, a2, b1, b2, u1, u2, c1, c2⟩ := h
  have h1 := Int.mul_ediv_add_emod (u * 4294967296 + c) y
  have h2 := Int.emod_nonneg (u * 4294967296 + c) (show y ≠ 0 by omega)
  have h3 := Int.emod_lt_of_pos (u * 4294967296 + c) (show 0 < y by omega)
  have hc : (u * 4294967296 + c) / y * y = y * ((u * 4294967296 + c) / y) := Int.mul_comm _ _
  have : u * 4294967296 + c - (u * 4294967296 + c) / y * y = (u * 4294967296 + c) % y := by omega
  rw [this]; omega
/-- Both digits. -/
theorem ds_two (y u c1 c0 : Int) (y0 : 0 < y) : ((u * 4294967296 + c1) / y) * 4294967296 + ((u * 4294967296 + c1) % y * 4294967296 + c0) / y = (u * 18446744073709551616 + c1 * 4294967296 + c0) / y ∧ ((u * 4294967296 + c1) % y * 4294967296 + c0) % y = (u * 18446744073709551616 + c1 * 4294967296 + c0) % y := by
  have h1 := Int.mul_ediv_add_emod (u * 4294967296 + c1) y
  have key := (Int.ediv_emod_unique (a := u * 18446744073709551616 + c1 * 4294967296 + c0) (b := y) (r := ((u * 4294967296 + c1) % y * 4294967296 + c0) % y) (q := ((u * 4294967296 + c1) / y) * 4294967296 + ((u * 4294967296 + c1) % y * 4294967296 + c0) / y) y0).2
  have h2 := Int.mul_ediv_add_emod ((u * 4294967296 + c1) % y * 4294967296 + c0) y
  have := key ⟨by rw [Int.mul_add, ← Int.mul_assoc]; omega, Int.emod_nonneg _ (by omega), Int.emod_lt_of_pos _ y0⟩
  exact ⟨this.1.symm, this.2.symm⟩
/-- Both numbers moved up. -/
theorem ds_up (hi lo : Int) (s : Nat) (hs : s ≤ 64) (h0 : 0 ≤ lo) : (hi * 2 ^ s + lo / 2 ^ (64 - s)) * 18446744073709551616 + lo * 2 ^ s % 18446744073709551616 = (hi * 18446744073709551616 + lo) * 2 ^ s := by
  have e : (18446744073709551616 : Int) = 2 ^ (64 - s) * 2 ^ s := by rw [← Int.pow_add, show 64 - s + s = 64 by omega]; rfl
  have h1 : lo / 2 ^ (64 - s) = lo * 2 ^ s / 18446744073709551616 := by rw [e]; exact (Int.mul_ediv_mul_of_pos_left _ _ (Int.pow_pos (by decide))).symm
  have h2 := Int.mul_ediv_add_emod (lo * 2 ^ s) 18446744073709551616
  have h3 : hi * 18446744073709551616 * 2 ^ s = hi * 2 ^ s * 18446744073709551616 := by rw [Int.mul_assoc, Int.mul_assoc, Int.mul_comm 18446744073709551616]
  rw [h1, Int.add_mul, Int.add_mul]; omega
/-- How far a number may be moved up. -/
theorem ds_norm (y : Nat) (h0 : 0 < y) (h1 : y < 18446744073709551616) : ∃ s : Nat, s ≤ 63 ∧ (64 - (Lib.bitLen y : Int)) = (s : Int) ∧ 9223372036854775808 ≤ (y : Int) * 2 ^ s ∧ (y : Int) * 2 ^ s < 18446744073709551616 := by
  have hb := Lib.bitLenAux_bounds 64 y (by omega) (by omega)
  have hl := Lib.bitLen_le y 64 (by omega) (by omega)
  have he : Lib.bitLen y = Lib.bitLenAux 64 y := rfl
  rw [← he] at hb
  obtain ⟨b1, b2, b3⟩ := hb
  generalize Lib.bitLen y = k at *
  refine ⟨64 - k, by omega, by omega, ?_, ?_⟩
  · have h2 : 2 ^ (k - 1) * 2 ^ (64 - k) ≤ y * 2 ^ (64 - k) := Nat.mul_le_mul_right _ b2
    rw [← Nat.pow_add, show k - 1 + (64 - k) = 63 by omega] at h2
    have e : ((y * 2 ^ (64 - k) : Nat) : Int) = (y : Int) * 2 ^ (64 - k) := by simp
    rw [← e]; omega
  · have h2 : y * 2 ^ (64 - k) < 2 ^ k * 2 ^ (64 - k) := Nat.mul_lt_mul_of_pos_right b3 (Nat.two_pow_pos _)
    rw [← Nat.pow_add, show k + (64 - k) = 64 by omega] at h2
    have e : ((y * 2 ^ (64 - k) : Nat) : Int) = (y : Int) * 2 ^ (64 - k) := by simp
    rw [← e]; omega
end Z
end Go.Proofs.YtiiddikiaafanaaGreatDoor
