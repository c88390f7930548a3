set_option linter.all false
/-
  Plain mathematics of numbers (fractions in lowest terms of bounded size, and none): no program, no memory.
-/
namespace Go.Proofs.Ytdfhakhapblhgaa
namespace Q

/-- Is n / d a number? -/
def isq (n d : Int) : Bool := decide (-1073741824 ≤ n ∧ n ≤ 1073741824 ∧ 1 ≤ d ∧ d ≤ 1073741824 ∧ n.natAbs.gcd d.natAbs = 1)
/-- In lowest terms, with a sign apart. -/
def low (s : Bool) (n d : Nat) : Int × Int :=
  if d = 0 then (0, 0) else
  if n / n.gcd d > 1073741824 ∨ d / n.gcd d > 1073741824 then (0, 0) else
  (if s then -((n / n.gcd d : Nat) : Int) else ((n / n.gcd d : Nat) : Int), ((d / n.gcd d : Nat) : Int))
def mk (n d : Int) : Int × Int := low (decide (n < 0) != decide (d < 0)) n.natAbs d.natAbs
def both (a b : Int × Int) : Bool := isq a.1 a.2 && isq b.1 b.2
def add (a b : Int × Int) : Int × Int := if both a b = true then mk (a.1 * b.2 + b.1 * a.2) (a.2 * b.2) else (0, 0)
def sub (a b : Int × Int) : Int × Int := if both a b = true then mk (a.1 * b.2 - b.1 * a.2) (a.2 * b.2) else (0, 0)
def mul (a b : Int × Int) : Int × Int := if both a b = true then mk (a.1 * b.1) (a.2 * b.2) else (0, 0)
def div (a b : Int × Int) : Int × Int := if both a b = true then mk (a.1 * b.2) (a.2 * b.1) else (0, 0)

theorem isq_iff (n d : Int) : isq n d = true ↔ (-1073741824 ≤ n ∧ n ≤ 1073741824 ∧ 1 ≤ d ∧ d ≤ 1073741824 ∧ n.natAbs.gcd d.natAbs = 1) := by
  unfold isq; exact decide_eq_true_iff

theorem mul_bd (x y : Int) (hx : -1073741824 ≤ x ∧ x ≤ 1073741824) (hy : -1073741824 ≤ y ∧ y ≤ 1073741824) :
    -1152921504606846976 ≤ x * y ∧ x * y ≤ 1152921504606846976 := by
  have h : (x * y).natAbs ≤ 1073741824 * 1073741824 := by
    rw [Int.natAbs_mul]; exact Nat.mul_le_mul (by omega) (by omega)
  omega
theorem low_zero (s : Bool) (n : Nat) : low s n 0 = (0, 0) := by simp [low]
/-- Opposite signs of both change nothing. -/
theorem mk_neg (n d : Int) (hd : d ≠ 0) : mk (-n) (-d) = mk n d := by
  unfold mk
  rw [Int.natAbs_neg, Int.natAbs_neg]
  by_cases h0 : n = 0
  · subst h0
    unfold low
    simp
  · congr 1
    have a1 : decide (-n < 0) = !decide (n < 0) := by
      by_cases h : n < 0
      · simp [h]; omega
      · simp [h]; omega
    have a2 : decide (-d < 0) = !decide (d < 0) := by
      by_cases h : d < 0
      · simp [h]; omega
      · simp [h]; omega
    rw [a1, a2]; cases decide (n < 0) <;> cases decide (d < 0) <;> rfl
theorem low_two (s : Bool) (n d : Nat) : low s (2 * n) (2 * d) = low s n d := by
  unfold low
  by_cases hd : d = 0
  · subst hd; simp
  · have h2 : ¬ 2 * d = 0 := by omega
    have e1 : 2 * n / (2 * n).gcd (2 * d) = n / n.gcd d := by rw [Nat.gcd_mul_left]; exact Nat.mul_div_mul_left _ _ (by omega)
    have e2 : 2 * d / (2 * n).gcd (2 * d) = d / n.gcd d := by rw [Nat.gcd_mul_left]; exact Nat.mul_div_mul_left _ _ (by omega)
    rw [e1, e2]; simp only [hd, h2, if_false]
theorem mk_two (n d : Int) : mk (2 * n) (2 * d) = mk n d := by
  unfold mk
  rw [Int.natAbs_mul, Int.natAbs_mul]
  have a1 : decide (2 * n < 0) = decide (n < 0) := by congr 1; apply propext; omega
  have a2 : decide (2 * d < 0) = decide (d < 0) := by congr 1; apply propext; omega
  rw [a1, a2]; exact low_two _ _ _
theorem gcd_pos' (n d : Int) (hd : d ≠ 0) : 0 < n.natAbs.gcd d.natAbs := Nat.gcd_pos_of_pos_right _ (by omega)
/-- In lowest terms. -/
theorem low_cop (n d : Nat) (hd : 0 < d) : (n / n.gcd d).gcd (d / n.gcd d) = 1 := Nat.gcd_div_gcd_div_gcd_of_pos_right hd
/-- Over a number above 0: by the greatest common divisor. -/
theorem mk_pos (n d : Int) (hd : 0 < d) (g : Int) (hg : g = (n.natAbs.gcd d.natAbs : Nat)) :
    (isq (n.tdiv g) (d.tdiv g) = true → mk n d = (n.tdiv g, d.tdiv g)) ∧ (isq (n.tdiv g) (d.tdiv g) = false → mk n d = (0, 0)) := by
  have hgp := gcd_pos' n d (by omega)
  have e1 : (n.tdiv g).natAbs = n.natAbs / n.natAbs.gcd d.natAbs := by rw [Int.natAbs_tdiv, hg]; simp only [Int.natAbs_natCast]; rfl
  have e2 : (d.tdiv g).natAbs = d.natAbs / n.natAbs.gcd d.natAbs := by rw [Int.natAbs_tdiv, hg]; simp only [Int.natAbs_natCast]; rfl
  have cop := low_cop n.natAbs d.natAbs (by omega)
  have dn : 0 ≤ d.tdiv g := Int.tdiv_nonneg (by omega) (by omega)
  have dp : 0 < d.natAbs / n.natAbs.gcd d.natAbs := Nat.div_pos (Nat.le_of_dvd (by omega) (Nat.gcd_dvd_right _ _)) hgp
  have ns : 0 ≤ n → 0 ≤ n.tdiv g := fun h => Int.tdiv_nonneg h (by omega)
  have nn : n < 0 → n.tdiv g ≤ 0 := fun h => by
    have : n.tdiv g = -((-n).tdiv g) := by rw [Int.neg_tdiv]; omega
    have h2 : 0 ≤ (-n).tdiv g := Int.tdiv_nonneg (by omega) (by omega)
    omega
  have hm : mk n d = if n.natAbs / n.natAbs.gcd d.natAbs > 1073741824 ∨ d.natAbs / n.natAbs.gcd d.natAbs > 1073741824 then (0, 0) else (n.tdiv g, d.tdiv g) := by
    unfold mk low
    rw [if_neg (by omega)]
    split
    · rfl
    · have hdd : decide (d < 0) = false := by simp; omega
      rw [hdd]
      by_cases h : n < 0
      · have := nn h
        simp only [h, decide_true, bne_iff_ne]
        simp
        omega
      · have := ns (by omega)
        simp only [h, decide_false]
        simp
        omega
  rw [hm]
  have hi : isq (n.tdiv g) (d.tdiv g) = true ↔ ¬ (n.natAbs / n.natAbs.gcd d.natAbs > 1073741824 ∨ d.natAbs / n.natAbs.gcd d.natAbs > 1073741824) := by
    rw [isq_iff, e1, e2]
    constructor
    · rintro ⟨a, b, c, d', _⟩; omega
    · intro h; refine ⟨?_, ?_, ?_, ?_, cop⟩ <;> omega
  constructor
  · intro h; rw [if_neg (hi.1 h)]
  · intro h; rw [if_pos]; apply Classical.byContradiction; intro hc; rw [hi.2 hc] at h; cases h
theorem mk_isq (n d : Int) : mk n d = (0, 0) ∨ isq (mk n d).1 (mk n d).2 = true := by
  by_cases hd : d = 0
  · left; unfold mk; rw [hd]; exact low_zero _ _
  · have key : ∀ n d : Int, 0 < d → mk n d = (0, 0) ∨ isq (mk n d).1 (mk n d).2 = true := fun n d hd => by
      cases h : isq (n.tdiv (n.natAbs.gcd d.natAbs : Nat)) (d.tdiv (n.natAbs.gcd d.natAbs : Nat))
      · left; exact (mk_pos n d hd _ rfl).2 h
      · right; rw [(mk_pos n d hd _ rfl).1 h]; exact h
    by_cases hp : 0 < d
    · exact key n d hp
    · rw [← mk_neg n d hd]; exact key _ _ (by omega)
theorem mk_least_d (n : Int) (hn : n.natAbs % 2 = 1) : mk n (-9223372036854775808) = (0, 0) := by
  unfold mk low
  rw [if_neg (by decide), if_pos]
  right
  have h1 : Nat.gcd n.natAbs 9223372036854775808 = 1 := by
    have : (9223372036854775808 : Nat) = 2 ^ 63 := by decide
    rw [this]
    exact Nat.Coprime.pow_right 63 (by unfold Nat.Coprime; rw [Nat.gcd_comm, Nat.gcd_rec, hn]; decide)
  have : (-9223372036854775808 : Int).natAbs = 9223372036854775808 := rfl
  rw [this, h1]; decide
theorem mk_zero (n : Int) : mk n 0 = (0, 0) := by unfold mk; exact low_zero _ _
/-- 2^63 over an odd number, or an odd number over it, is beyond. -/
theorem mk_least_n (d : Int) (hd : d.natAbs % 2 = 1) : mk (-9223372036854775808) d = (0, 0) := by
  unfold mk low
  rw [if_neg (by omega), if_pos]
  left
  have h1 : Nat.gcd 9223372036854775808 d.natAbs = 1 := by
    have : (9223372036854775808 : Nat) = 2 ^ 63 := by decide
    rw [this]
    exact Nat.Coprime.pow_left 63 (by unfold Nat.Coprime; rw [Nat.gcd_rec, hd]; decide)
  have : (-9223372036854775808 : Int).natAbs = 9223372036854775808 := rfl
  rw [this, h1]; decide
/-- What is known of two numbers' parts and their products. -/
structure Bd (an ad bn bd : Int) : Prop where
  a1 : -1073741824 ≤ an ∧ an ≤ 1073741824
  a2 : 1 ≤ ad ∧ ad ≤ 1073741824
  b1 : -1073741824 ≤ bn ∧ bn ≤ 1073741824
  b2 : 1 ≤ bd ∧ bd ≤ 1073741824
  nn : -1152921504606846976 ≤ an * bn ∧ an * bn ≤ 1152921504606846976
  nd : -1152921504606846976 ≤ an * bd ∧ an * bd ≤ 1152921504606846976
  dn : -1152921504606846976 ≤ bn * ad ∧ bn * ad ≤ 1152921504606846976
  dn' : -1152921504606846976 ≤ ad * bn ∧ ad * bn ≤ 1152921504606846976
  dd : 1 ≤ ad * bd ∧ ad * bd ≤ 1152921504606846976
theorem bd_of {an ad bn bd : Int} (h : both (an, ad) (bn, bd) = true) : Bd an ad bn bd := by
  unfold both at h
  rw [Bool.and_eq_true] at h
  obtain ⟨h1, h2⟩ := h
  have h1 := (isq_iff _ _).1 h1
  have h2 := (isq_iff _ _).1 h2
  refine ⟨by omega, by omega, by omega, by omega, mul_bd _ _ (by omega) (by omega), mul_bd _ _ (by omega) (by omega), mul_bd _ _ (by omega) (by omega), mul_bd _ _ (by omega) (by omega), ?_, (mul_bd _ _ (by omega) (by omega)).2⟩
  have : 0 < ad * bd := Int.mul_pos (by omega) (by omega)
  omega
end Q
end Go.Proofs.Ytdfhakhapblhgaa
