/-
  Plain mathematics of numbers, part two: comparing, rounding, rests.
-/
import Derived.Test.YtpdklolfkigefaaDoorQ
set_option linter.all false
namespace Go.Proofs.YtpdklolfkigefaaDoor
namespace Q
def cmpi (x y : Int) : Int := if x < y then -1 else if y < x then 1 else 0
def rank (a : Int × Int) : Int := if isq a.1 a.2 = true then 1 else 0
def cmp (a b : Int × Int) : Int := if both a b = true then cmpi (a.1 * b.2) (b.1 * a.2) else cmpi (rank a) (rank b)
def valid (a : Int × Int) : Bool := (a.1 == 0 && a.2 == 0) || isq a.1 a.2
def clean (a : Int × Int) : Int × Int := if isq a.1 a.2 = true then a else (0, 0)
def neg (a : Int × Int) : Int × Int := if isq a.1 a.2 = true then (-a.1, a.2) else (0, 0)
def abs (a : Int × Int) : Int × Int := if isq a.1 a.2 = true then (if a.1 < 0 then (-a.1, a.2) else a) else (0, 0)
def floor (a : Int × Int) : Int × Int := if isq a.1 a.2 = true then mk (a.1 / a.2) 1 else (0, 0)
def up (n d : Int) : Int := if d < 2 * (n % d) ∨ (2 * (n % d) = d ∧ (n / d).tmod 2 ≠ 0) then n / d + 1 else n / d
def round (a : Int × Int) : Int × Int := if isq a.1 a.2 = true then mk (up a.1 a.2) 1 else (0, 0)
def frac (a : Int × Int) : Int × Int := sub a (floor a)
def min (a b : Int × Int) : Int × Int := if both a b = true then (if cmp b a < 0 then b else a) else (0, 0)
def max (a b : Int × Int) : Int × Int := if both a b = true then (if 0 < cmp b a then b else a) else (0, 0)
/-- Quotient and rest, the rest of the divisor's sign. -/
def turn (p d : Int) : Bool := (p.tmod d != 0) && (decide (p.tmod d < 0) != decide (d < 0))
def dq (p d : Int) : Int := if turn p d = true then p.tdiv d - 1 else p.tdiv d
def dr (p d : Int) : Int := if turn p d = true then p.tmod d + d else p.tmod d
def mod (a b : Int × Int) : Int × Int := if (both a b && b.1 != 0) = true then mk (dr (a.1 * b.2) (b.1 * a.2)) (a.2 * b.2) else (0, 0)

theorem tmod_lt (p d : Int) (hd : d ≠ 0) : (p.tmod d).natAbs < d.natAbs := by
  rw [Int.natAbs_tmod]; exact Nat.mod_lt _ (by omega)
theorem tdiv_bd (p d B : Int) (hB : -B ≤ p ∧ p ≤ B) : -B ≤ p.tdiv d ∧ p.tdiv d ≤ B := by
  have h : (p.tdiv d).natAbs ≤ p.natAbs := by rw [Int.natAbs_tdiv]; exact Nat.div_le_self _ _
  omega
theorem dqr (p d : Int) (hd : 0 < d) : dq p d = p / d ∧ dr p d = p % d := by
  have key : dr p d + d * dq p d = p ∧ 0 ≤ dr p d ∧ dr p d < d := by
    have h1 := Int.mul_tdiv_add_tmod p d
    have h2 := tmod_lt p d (by omega)
    unfold dr dq turn
    by_cases h0 : p.tmod d = 0
    · simp [h0]; omega
    · by_cases hn : p.tmod d < 0
      · have hd' : ¬ d < 0 := by omega
        simp [h0, hn, hd']
        rw [Int.mul_sub]; omega
      · have hd' : ¬ d < 0 := by omega
        simp [hn, hd']; omega
  have := (Int.ediv_emod_unique hd).2 key
  exact ⟨this.1.symm, this.2.symm⟩
theorem floor_div (p d : Int) (hd : 0 < d) : p / d = if p.tmod d < 0 then p.tdiv d - 1 else p.tdiv d := by
  rw [← (dqr p d hd).1]
  unfold dq turn
  have hd' : ¬ d < 0 := by omega
  by_cases h0 : p.tmod d = 0
  · simp [h0]
  · by_cases hn : p.tmod d < 0
    · simp [h0, hn, hd']
    · simp [hn, hd']
theorem div_bd (p d B : Int) (hd : 0 < d) (hB : -B ≤ p ∧ p ≤ B) : -B ≤ p / d ∧ p / d ≤ B := by
  have hd' : (1 : Int) ≤ d := hd
  have hB0 : 0 ≤ B := by omega
  constructor
  · have : -B ≤ p / d ↔ -B * d ≤ p := Int.le_ediv_iff_mul_le hd
    rw [this]
    have : B * 1 ≤ B * d := Int.mul_le_mul_of_nonneg_left hd' hB0
    rw [Int.neg_mul]; omega
  · have : p / d < B + 1 ↔ p < (B + 1) * d := Int.ediv_lt_iff_lt_mul hd
    have h2 : (B + 1) * 1 ≤ (B + 1) * d := Int.mul_le_mul_of_nonneg_left hd' (by omega)
    have := this.2 (by omega)
    omega
theorem cmpi_flip (x y : Int) : cmpi y x = -cmpi x y := by
  unfold cmpi; split <;> split <;> (try split) <;> omega
theorem both_flip (a b : Int × Int) : both a b = both b a := by unfold both; rw [Bool.and_comm]
theorem cmp_flip (a b : Int × Int) : cmp b a = -cmp a b := by
  unfold cmp; rw [both_flip b a]; split <;> exact cmpi_flip _ _
theorem isq_neg (n d : Int) : isq (-n) d = isq n d := by
  rw [Bool.eq_iff_iff, isq_iff, isq_iff, Int.natAbs_neg]; omega
theorem add_neg (a b : Int × Int) : add a (neg b) = sub a b := by
  unfold add sub neg both
  cases h : isq b.1 b.2
  · have : isq 0 0 = false := by decide
    simp [this]
  · simp only [if_true, isq_neg, h, Bool.and_true]
    split
    · congr 1; rw [Int.neg_mul]; omega
    · rfl
theorem max_neg (a : Int × Int) : max a (neg a) = abs a := by
  unfold max neg abs both
  cases h : isq a.1 a.2
  · simp
  · have hq := (isq_iff _ _).1 h
    simp only [if_true, isq_neg, h, Bool.and_true]
    have hc : cmp (-a.1, a.2) a = cmpi (-a.1 * a.2) (a.1 * a.2) := by
      unfold cmp both; simp only [isq_neg, h, Bool.and_true, if_true]
    rw [hc]
    by_cases hn : a.1 < 0
    · have : a.1 * a.2 < 0 := Int.mul_neg_of_neg_of_pos hn (by omega)
      have h1 : cmpi (-a.1 * a.2) (a.1 * a.2) = 1 := by unfold cmpi; rw [Int.neg_mul]; split; omega; split; rfl; omega
      rw [h1]; simp [hn]
    · have : 0 ≤ a.1 * a.2 := Int.mul_nonneg (by omega) (by omega)
      have h1 : ¬ 0 < cmpi (-a.1 * a.2) (a.1 * a.2) := by unfold cmpi; rw [Int.neg_mul]; split; omega; split <;> omega
      simp [hn, h1]
end Q
end Go.Proofs.YtpdklolfkigefaaDoor
