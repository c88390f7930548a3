/-
  The specification's comparing of fractions by whole parts: it comes to an end, and is that of the cross products.
-/
import Derived.Test.YtnidbhfpkjggmaaGreatDoorOl
set_option linter.all false
namespace Go.Proofs.YtnidbhfpkjggmaaGreatDoor
open Go.Pv Go.RowKit

/-- What a step compares. -/
structure Stp2 (a b c d x y r s : Int) : Prop where
  r0 : 0 ≤ r
  r1 : r < b
  s0 : 0 ≤ s
  s1 : s < d
  lt : x < y → Q.cmpi (a * d) (c * b) = -1
  gt : y < x → Q.cmpi (a * d) (c * b) = 1
  eq : x = y → Q.cmpi (a * d) (c * b) = Q.cmpi (r * d) (s * b)
theorem stp2 {a b c d : Int} (hb : 0 < b) (hd : 0 < d) : Stp2 a b c d (a / b) (c / d) (a % b) (c % d) := by
  have e1 := Int.mul_ediv_add_emod a b
  have e2 := Int.mul_ediv_add_emod c d
  have r0 := Int.emod_nonneg a (show b ≠ 0 by omega)
  have r1 := Int.emod_lt_of_pos a hb
  have s0 := Int.emod_nonneg c (show d ≠ 0 by omega)
  have s1 := Int.emod_lt_of_pos c hd
  have f1 : a * d = b * (a / b) * d + a % b * d := by rw [← Int.add_mul, e1]
  have f2 : c * b = d * (c / d) * b + c % d * b := by rw [← Int.add_mul, e2]
  have g1 : b * (a / b) * d = b * d * (a / b) := Int.mul_right_comm _ _ _
  have g2 : d * (c / d) * b = b * d * (c / d) := by rw [Int.mul_right_comm, Int.mul_comm d b]
  have h1 : a % b * d < b * d := Int.mul_lt_mul_of_pos_right r1 hd
  have h2 : c % d * b < b * d := by rw [Int.mul_comm b d]; exact Int.mul_lt_mul_of_pos_right s1 hb
  have h3 : 0 ≤ a % b * d := Int.mul_nonneg r0 (by omega)
  have h4 : 0 ≤ c % d * b := Int.mul_nonneg s0 (by omega)
  have hbd : 0 < b * d := Int.mul_pos hb hd
  refine ⟨r0, r1, s0, s1, fun h => ?_, fun h => ?_, fun h => ?_⟩
  · have : b * d * (a / b) + b * d ≤ b * d * (c / d) := by
      have := Int.mul_le_mul_of_nonneg_left (show a / b + 1 ≤ c / d by omega) (show 0 ≤ b * d by omega)
      rw [Int.mul_add, Int.mul_one] at this; exact this
    unfold Q.cmpi
    rw [if_pos (by omega)]
  · have : b * d * (c / d) + b * d ≤ b * d * (a / b) := by
      have := Int.mul_le_mul_of_nonneg_left (show c / d + 1 ≤ a / b by omega) (show 0 ≤ b * d by omega)
      rw [Int.mul_add, Int.mul_one] at this; exact this
    unfold Q.cmpi
    rw [if_neg (by omega), if_pos (by omega)]
  · rw [h] at g1 f1
    have i1 : a * d < c * b ↔ a % b * d < c % d * b := by omega
    have i2 : c * b < a * d ↔ c % d * b < a % b * d := by omega
    unfold Q.cmpi
    simp only [i1, i2]
/-- One step. -/
theorem order_step {f : Int → Int → Bool → Int → Int → Bool → (Int → Option DV) → Option DV} {a b c d : Int} (ha : -4611686018427387904 ≤ a ∧ a ≤ 4611686018427387904) (hb : 1 ≤ b ∧ b ≤ 1152921504606846976) (hc : -4611686018427387904 ≤ c ∧ c ≤ 4611686018427387904) (hd : 1 ≤ d ∧ d ≤ 1152921504606846976)
    (k : Int → Option DV) (hf : a % b ≠ 0 → c % d ≠ 0 → ∀ k, f d (c % d) false b (a % b) false k = k (Q.cmpi (d * (a % b)) (b * (c % d)))) :
    B_serinetteref03_order f serinetteref01_FloorDiv a b false c d false k = k (Q.cmpi (a * d) (c * b)) := by
  have hs := stp2 (a := a) (b := b) (c := c) (d := d) (by omega) (by omega)
  have e1 := Int.mul_ediv_add_emod a b
  have e2 := Int.mul_ediv_add_emod c d
  have r0 := hs.r0
  have r1 := hs.r1
  have s0 := hs.s0
  have s1 := hs.s1
  unfold B_serinetteref03_order serinetteref01_FloorDiv
  have c1 : decide ((-4611686018427387904 ≤ a ∧ a ≤ 4611686018427387904) ∧ (1 ≤ b ∧ b ≤ 4611686018427387904)) = true := decide_eq_true (by omega)
  have c2 : decide ((-4611686018427387904 ≤ c ∧ c ≤ 4611686018427387904) ∧ (1 ≤ d ∧ d ≤ 4611686018427387904)) = true := decide_eq_true (by omega)
  have w1 : IntKind.wrap .i64 (a / b * b) = a / b * b := IntWalk.i64_in _ (by rw [Int.mul_comm]; omega)
  have w2 : IntKind.wrap .i64 (c / d * d) = c / d * d := IntWalk.i64_in _ (by rw [Int.mul_comm]; omega)
  have w3 : IntKind.wrap .i64 (a - a / b * b) = a % b := by rw [Int.mul_comm, IntWalk.i64_in _ (by omega)]; omega
  have w4 : IntKind.wrap .i64 (c - c / d * d) = c % d := by rw [Int.mul_comm, IntWalk.i64_in _ (by omega)]; omega
  simp only [c1, c2, cond_true, w1, w2, w3, w4]
  by_cases h1 : a / b < c / d
  · rw [decide_eq_true h1, hs.lt h1]; rfl
  · by_cases h2 : c / d < a / b
    · have h2' : a / b > c / d := h2
      rw [decide_eq_false h1, decide_eq_true h2', hs.gt h2]; rfl
    · have h2' : ¬ a / b > c / d := h2
      rw [decide_eq_false h1, decide_eq_false h2', hs.eq (by omega)]
      simp only [cond_false]
      by_cases h3 : a % b = 0
      · have z3 : (a % b == 0) = true := by simp [h3]
        have z4 : ¬ a % b > 0 := by omega
        rw [z3, decide_eq_false z4]
        simp only [Bool.not_true, cond_false]
        by_cases h4 : c % d > 0
        · rw [decide_eq_true h4, h3]
          have : 0 < c % d * b := Int.mul_pos (by omega) (by omega)
          unfold Q.cmpi
          rw [Int.zero_mul, if_pos this]; rfl
        · have h5 : c % d = 0 := by omega
          rw [decide_eq_false h4, h3, h5, Int.zero_mul, Int.zero_mul]; rfl
      · have z3 : (a % b == 0) = false := by simp [h3]
        rw [z3]
        simp only [Bool.not_false, cond_true]
        by_cases h4 : c % d = 0
        · have z4 : (c % d == 0) = true := by simp [h4]
          have z5 : a % b > 0 := by omega
          rw [z4, decide_eq_true z5, h4]
          have : 0 < a % b * d := Int.mul_pos (by omega) (by omega)
          unfold Q.cmpi
          rw [Int.zero_mul, if_neg (by omega), if_pos this]; rfl
        · have z4 : (c % d == 0) = false := by simp [h4]
          rw [z4]
          simp only [cond_false]
          rw [hf h3 h4, Int.mul_comm d, Int.mul_comm b]
theorem half_rest {b r : Int} (hr : 0 < r) (hrb : r < b) : 2 * (b % r) < b := by
  have h1 := Int.emod_lt_of_pos b hr
  have h2 := Int.mul_ediv_add_emod b r
  have h3 : 1 ≤ b / r := by
    rw [Int.le_ediv_iff_mul_le hr]; omega
  have h4 : r * 1 ≤ r * (b / r) := Int.mul_le_mul_of_nonneg_left h3 (by omega)
  omega
theorem order_n_eq : ∀ (m n : Nat) (a b c d : Int), 2 * m + 1 ≤ n → b < 2 ^ m → (-4611686018427387904 ≤ a ∧ a ≤ 4611686018427387904) → (1 ≤ b ∧ b ≤ 1152921504606846976) → (-4611686018427387904 ≤ c ∧ c ≤ 4611686018427387904) → (1 ≤ d ∧ d ≤ 1152921504606846976) →
    ∀ k, serinetteref03_order_n n a b false c d false k = k (Q.cmpi (a * d) (c * b))
  | 0, n, a, b, c, d, _, hb, _, hb1, _, _ => fun k => by simp at hb; omega
  | m + 1, 0, a, b, c, d, hn, _, _, _, _, _ => by omega
  | m + 1, 1, a, b, c, d, hn, _, _, _, _, _ => by omega
  | m + 1, n + 2, a, b, c, d, hn, hb, ha, hb1, hc, hd => fun k => by
    have s1 := stp2 (a := a) (b := b) (c := c) (d := d) (by omega) (by omega)
    refine order_step ha hb1 hc hd k fun hr hs k => ?_
    have r0 := s1.r0
    have r1 := s1.r1
    have t0 := s1.s0
    have t1 := s1.s1
    have s2 := stp2 (a := d) (b := c % d) (c := b) (d := a % b) (by omega) (by omega)
    refine order_step (by omega) (by omega) (by omega) (by omega) k fun hr2 hs2 k => ?_
    have u0 := s2.r0
    have u1 := s2.r1
    have v0 := s2.s0
    have v1 := s2.s1
    have hh := half_rest (b := b) (r := a % b) (by omega) r1
    have hp : (2 : Int) ^ (m + 1) = 2 * 2 ^ m := by rw [Int.pow_succ, Int.mul_comm]
    exact order_n_eq m n _ _ _ _ (by omega) (by omega) (by omega) (by omega) (by omega) (by omega) k
theorem order_eq {a b c d : Int} (ha : -4611686018427387904 ≤ a ∧ a ≤ 4611686018427387904) (hb : 1 ≤ b ∧ b ≤ 1152921504606846976) (hc : -4611686018427387904 ≤ c ∧ c ≤ 4611686018427387904) (hd : 1 ≤ d ∧ d ≤ 1152921504606846976) (k : Int → Option DV) :
    serinetteref03_order a b false c d false k = k (Q.cmpi (a * d) (c * b)) :=
  order_n_eq 61 130 a b c d (by omega) (by have : (2 : Int) ^ 61 = 2305843009213693952 := by decide
                                           omega) ha hb hc hd k
end Go.Proofs.YtnidbhfpkjggmaaGreatDoor
