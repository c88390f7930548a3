/-
  Euclid's loops.
-/
import Derived.Test.YtdfhakhapblhgaaGa
import Derived.Test.YtdfhakhapblhgaaQ
set_option linter.all false
namespace Go.Proofs.Ytdfhakhapblhgaa
open Go Go.Pv Go.RowKit
theorem tmod_nat (a b : Nat) : Int.tmod (a : Int) (b : Int) = ((a % b : Nat) : Int) := by rw [Int.tmod_eq_emod_of_nonneg (by omega)]; rfl
theorem euclid_ref (p : X_serinetteref01_Divisor_l5 → Nat) (κ : KI) : ∀ (n e a b : Nat), b < 2 ^ n → LF (F_serinetteref01_Divisor_l5 p) (2 * n + 1 + e) (.h0 a b) κ = κ ((Nat.gcd a b : Nat) : Int)
  | 0, e, a, b, hb => by
    have : b = 0 := by simpa using hb
    subst this
    rw [show 2 * 0 + 1 + e = e + 1 by omega]
    simp [LF, F_serinetteref01_Divisor_l5, B_serinetteref01_Divisor_l5_h0, bx_f]
  | n + 1, e, a, b, hb => by
    have step : ∀ (f a b : Nat), b ≠ 0 → LF (F_serinetteref01_Divisor_l5 p) (f + 1) (.h0 a b) κ = LF (F_serinetteref01_Divisor_l5 p) f (.h0 b ((a % b : Nat) : Int)) κ := by
      intro f a b hb
      have h1 : ((b : Int) != 0) = true := by simp [hb]
      have h2 : ((b : Int) == 0) = false := by simp [hb]
      simp only [LF, F_serinetteref01_Divisor_l5, B_serinetteref01_Divisor_l5_h0, h1, h2, bx_t, bx_f, tmod_nat]
    have stop : ∀ (f a : Nat), LF (F_serinetteref01_Divisor_l5 p) (f + 1) (.h0 a ((0 : Nat) : Int)) κ = κ (a : Int) := by
      intro f a
      simp [LF, F_serinetteref01_Divisor_l5, B_serinetteref01_Divisor_l5_h0, bx_f]
    rw [show 2 * (n + 1) + 1 + e = (2 * n + 1 + e) + 1 + 1 by omega]
    by_cases h0 : b = 0
    · subst h0
      rw [stop]; simp
    · rw [step _ a b h0]
      by_cases h1 : a % b = 0
      · rw [h1, stop, Nat.gcd_comm, Nat.gcd_rec, h1, Nat.gcd_zero_left]
      · rw [step _ b (a % b) h1]
        have hc : a % b < b := Nat.mod_lt _ (by omega)
        have h2 : b % (a % b) < 2 ^ n := by
          have hlt : b % (a % b) < a % b := Nat.mod_lt _ (by omega)
          have hdm := Nat.mod_add_div b (a % b)
          have hq : 1 ≤ b / (a % b) := Nat.div_pos (by omega) (by omega)
          have hm : a % b ≤ (a % b) * (b / (a % b)) := Nat.le_mul_of_pos_right _ hq
          rw [Nat.pow_succ] at hb
          omega
        rw [euclid_ref p κ n e (a % b) (b % (a % b)) h2]
        congr 2
        rw [Nat.gcd_comm a b, Nat.gcd_rec b a, Nat.gcd_rec (a % b) b, Nat.gcd_comm]
theorem euclid_prog (p : X_ratio_divisor_l1 → Nat) (κ : KI) : ∀ (n e a b : Nat), b < 2 ^ n → LF (F_ratio_divisor_l1 p) (2 * n + 1 + e) (.h0 a b) κ = κ ((Nat.gcd a b : Nat) : Int)
  | 0, e, a, b, hb => by
    have : b = 0 := by simpa using hb
    subst this
    rw [show 2 * 0 + 1 + e = e + 1 by omega]
    simp [LF, F_ratio_divisor_l1, B_ratio_divisor_l1_h0, bx_f]
  | n + 1, e, a, b, hb => by
    have step : ∀ (f a b : Nat), b ≠ 0 → LF (F_ratio_divisor_l1 p) (f + 1) (.h0 a b) κ = LF (F_ratio_divisor_l1 p) f (.h0 b ((a % b : Nat) : Int)) κ := by
      intro f a b hb
      have h1 : ((b : Int) != 0) = true := by simp [hb]
      have h2 : ((b : Int) == 0) = false := by simp [hb]
      simp only [LF, F_ratio_divisor_l1, B_ratio_divisor_l1_h0, h1, h2, bx_t, bx_f, tmod_nat]
    have stop : ∀ (f a : Nat), LF (F_ratio_divisor_l1 p) (f + 1) (.h0 a ((0 : Nat) : Int)) κ = κ (a : Int) := by
      intro f a
      simp [LF, F_ratio_divisor_l1, B_ratio_divisor_l1_h0, bx_f]
    rw [show 2 * (n + 1) + 1 + e = (2 * n + 1 + e) + 1 + 1 by omega]
    by_cases h0 : b = 0
    · subst h0
      rw [stop]; simp
    · rw [step _ a b h0]
      by_cases h1 : a % b = 0
      · rw [h1, stop, Nat.gcd_comm, Nat.gcd_rec, h1, Nat.gcd_zero_left]
      · rw [step _ b (a % b) h1]
        have hc : a % b < b := Nat.mod_lt _ (by omega)
        have h2 : b % (a % b) < 2 ^ n := by
          have hlt : b % (a % b) < a % b := Nat.mod_lt _ (by omega)
          have hdm := Nat.mod_add_div b (a % b)
          have hq : 1 ≤ b / (a % b) := Nat.div_pos (by omega) (by omega)
          have hm : a % b ≤ (a % b) * (b / (a % b)) := Nat.le_mul_of_pos_right _ hq
          rw [Nat.pow_succ] at hb
          omega
        rw [euclid_prog p κ n e (a % b) (b % (a % b)) h2]
        congr 2
        rw [Nat.gcd_comm a b, Nat.gcd_rec b a, Nat.gcd_rec (a % b) b, Nat.gcd_comm]

theorem divisor_ref (a b : Int) (ha : -1073741824 ≤ a ∧ a ≤ 1073741824) (hb : 1 ≤ b ∧ b ≤ 1073741824) (k : KI) : serinetteref01_Divisor a b k = k ((Nat.gcd a.natAbs b.natAbs : Nat) : Int) := by
  have h2 : decide (b < 0) = false := by simp; omega
  have hw : a < 0 → IntKind.wrap .i64 (0 - a) = ((a.natAbs : Nat) : Int) := fun h => by
    simp [IntKind.wrap, IntKind.bits, IntKind.signed]; omega
  have eb : b = ((b.natAbs : Nat) : Int) := by omega
  unfold serinetteref01_Divisor B_serinetteref01_Divisor
  simp only [h2, bx_f, φ_serinetteref01_Divisor_l5]
  have key := euclid_ref φ_serinetteref01_Divisor_l5 k 31 137 a.natAbs b.natAbs (by omega)
  rw [← eb] at key
  by_cases h : a < 0
  · rw [show decide (a < 0) = true by simp [h], bx_t, hw h]
    exact key
  · rw [show decide (a < 0) = false by simp [h], bx_f]
    have ea : a = ((a.natAbs : Nat) : Int) := by omega
    rw [← ea] at key
    exact key
theorem is_ref (a b : Int) (k : KB) : serinetteref01_Is a b k = k (Q.isq a b) := by
  unfold serinetteref01_Is B_serinetteref01_Is
  have hq : Q.isq a b = decide (-1073741824 ≤ a ∧ a ≤ 1073741824 ∧ 1 ≤ b ∧ b ≤ 1073741824 ∧ a.natAbs.gcd b.natAbs = 1) := rfl
  by_cases h1 : b ≥ 1
  · by_cases h2 : b ≤ 1073741824
    · by_cases h3 : a ≥ -1073741824
      · by_cases h4 : a ≤ 1073741824
        · simp only [h1, h2, h3, h4, decide_true, bx_t]
          rw [divisor_ref a b ⟨h3, h4⟩ ⟨h1, h2⟩, hq]
          congr 1
          by_cases h5 : a.natAbs.gcd b.natAbs = 1
          · simp [h5]; omega
          · have : ((a.natAbs.gcd b.natAbs : Nat) : Int) ≠ 1 := by omega
            simp [this, h5]
        · have : Q.isq a b = false := by rw [hq]; simp; omega
          simp only [h1, h2, h3, h4, decide_true, decide_false, bx_t, bx_f, this]
      · have : Q.isq a b = false := by rw [hq]; simp; omega
        simp only [h1, h2, h3, decide_true, decide_false, bx_t, bx_f, this]
    · have : Q.isq a b = false := by rw [hq]; simp; omega
      simp only [h1, h2, decide_true, decide_false, bx_t, bx_f, this]
  · have : Q.isq a b = false := by rw [hq]; simp; omega
    simp only [h1, decide_false, bx_f, this]
theorem divisor_prog (a b : Nat) (hb : b ≤ 1073741824) (k : KI) : ratio_divisor a b k = k ((Nat.gcd a b : Nat) : Int) := by
  unfold ratio_divisor B_ratio_divisor
  exact euclid_prog φ_ratio_divisor_l1 k 31 137 a b (by omega)
theorem size_prog (a : Int) (ha : -1073741824 ≤ a ∧ a ≤ 1073741824) (k : KI) : ratio_size a k = k ((a.natAbs : Nat) : Int) := by
  unfold ratio_size B_ratio_size
  by_cases h : a < 0
  · rw [show decide (a < 0) = true by simp [h], bx_t]
    congr 1
    simp [IntKind.wrap, IntKind.bits, IntKind.signed]; omega
  · rw [show decide (a < 0) = false by simp [h], bx_f]
    congr 1
    simp [IntKind.wrap, IntKind.bits, IntKind.signed]; omega
theorem is_prog (a b : Int) (k : KB) : ratio_Is a b k = k (Q.isq a b) := by
  unfold ratio_Is B_ratio_Is
  have hq : Q.isq a b = decide (-1073741824 ≤ a ∧ a ≤ 1073741824 ∧ 1 ≤ b ∧ b ≤ 1073741824 ∧ a.natAbs.gcd b.natAbs = 1) := rfl
  by_cases h3 : a < -1073741824
  · have : Q.isq a b = false := by rw [hq]; simp; omega
    simp only [h3, decide_true, Bool.not_true, bx_f, this]
  · by_cases h4 : a > 1073741824
    · have : Q.isq a b = false := by rw [hq]; simp; omega
      simp only [h3, h4, decide_true, decide_false, Bool.not_true, Bool.not_false, bx_t, bx_f, this]
    · by_cases h1 : b < 1
      · have : Q.isq a b = false := by rw [hq]; simp; omega
        simp only [h3, h4, h1, decide_true, decide_false, Bool.not_true, Bool.not_false, bx_t, bx_f, this]
      · by_cases h2 : b > 1073741824
        · have : Q.isq a b = false := by rw [hq]; simp; omega
          simp only [h3, h4, h1, h2, decide_true, decide_false, Bool.not_false, bx_t, this]
        · simp only [h3, h4, h1, h2, decide_false, Bool.not_false, bx_t, bx_f]
          rw [size_prog a ⟨by omega, by omega⟩, size_prog b ⟨by omega, by omega⟩, divisor_prog _ _ (by omega), hq]
          congr 1
          by_cases h5 : a.natAbs.gcd b.natAbs = 1
          · simp [h5]; omega
          · have : ((a.natAbs.gcd b.natAbs : Nat) : Int) ≠ 1 := by omega
            simp [this, h5]
end Go.Proofs.Ytdfhakhapblhgaa
