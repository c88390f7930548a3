import Derived.WalkKit
set_option linter.all false
/-
  Plain mathematics of formats: powers of two in 64 bits.
-/
namespace Go.Proofs.YtiiddikiaafanaaGreatDoor
open Go.RowKit
namespace Z
theorem p2_pos (k : Nat) : (1 : Int) ≤ 2 ^ k := Int.pow_pos (by decide)
theorem p2_mono {j k : Nat} (h : j ≤ k) : (2 : Int) ^ j ≤ 2 ^ k := by
  have := Nat.pow_le_pow_right (n := 2) (by decide) h
  have e : ∀ i : Nat, ((2 ^ i : Nat) : Int) = (2 : Int) ^ i := fun i => by simp
  rw [← e, ← e]; omega
theorem p2_add (j k : Nat) : (2 : Int) ^ (j + k) = 2 ^ j * 2 ^ k := Int.pow_add _ _ _
theorem p2_bd (k : Nat) (h : k ≤ 62) : (1 : Int) ≤ 2 ^ k ∧ (2 : Int) ^ k ≤ 4611686018427387904 := ⟨p2_pos k, p2_mono h⟩
theorem p2_30 (k : Nat) (h : k ≤ 30) : (1 : Int) ≤ 2 ^ k ∧ (2 : Int) ^ k ≤ 1073741824 := ⟨p2_pos k, p2_mono h⟩
theorem p2_31 (k : Nat) (h : k ≤ 31) : (1 : Int) ≤ 2 ^ k ∧ (2 : Int) ^ k ≤ 2147483648 := ⟨p2_pos k, p2_mono h⟩
theorem i64_in (x : Int) (h : -9223372036854775808 ≤ x ∧ x ≤ 9223372036854775807) : IntKind.i64.wrap x = x := by
  simp only [IntKind.wrap, IntKind.bits, IntKind.signed]
  simp
  omega
/-- Is n / d below 2^e in size? -/
def below (n d e : Int) : Bool := if 0 ≤ e then decide ((n.natAbs : Int) < d * 2 ^ e.toNat) else decide ((n.natAbs : Int) * 2 ^ (-e).toNat < d)
theorem below_pos (n d : Int) (j : Nat) : below n d (j : Int) = decide ((n.natAbs : Int) < d * 2 ^ j) := by
  unfold below; rw [if_pos (by omega)]; rfl
theorem below_neg (n d : Int) (j : Nat) : below n d (-(j : Int)) = decide ((n.natAbs : Int) * 2 ^ j < d) := by
  unfold below
  by_cases h : j = 0
  · subst h; simp
  · rw [if_neg (by omega)]; simp
theorem shr_lt (a d : Int) (j : Nat) : decide (a / 2 ^ j < d) = decide (a < d * 2 ^ j) := by
  congr 1; exact propext (Int.ediv_lt_iff_lt_mul (Int.pow_pos (by decide)))
theorem le_shr (a d : Int) (j : Nat) : decide (a ≤ (d - 1) / 2 ^ j) = decide (a * 2 ^ j < d) := by
  congr 1; apply propext; rw [Int.le_ediv_iff_mul_le (Int.pow_pos (by decide))]; omega
end Z
end Go.Proofs.YtiiddikiaafanaaGreatDoor
