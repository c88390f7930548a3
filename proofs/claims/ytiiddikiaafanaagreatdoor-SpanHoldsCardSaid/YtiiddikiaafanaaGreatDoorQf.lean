set_option linter.all false
/-
  Plain mathematics of numbers (fractions in lowest terms of bounded size, and none): no program, no memory.
-/
namespace Go.Proofs.YtiiddikiaafanaaGreatDoor
namespace Q

/-- Is n / d a number? -/
def isq (n d : Int) : Bool := decide (-1073741824 ≤ n ∧ n ≤ 1073741824 ∧ 1 ≤ d ∧ d ≤ 1073741824 ∧ n.natAbs.gcd d.natAbs = 1)
/-- In lowest terms, with a sign apart. -/
def low (s : Bool) (n d : Nat) : Int × Int :=
  if d = 0 then (0, 0) else
  if n / n.gcd d > 1073741824 ∨ d / n.gcd d > 1073741824 then (0, 0) else
  (if s then -((n / n.gcd d : Nat) : Int) else ((n / n.gcd d : Nat) : Int), ((d / n.gcd d : Nat) : Int))
def mk (n d : Int) : Int × Int := low (decide (n < 0) != decide (d < 0)) n.natAbs d.natAbs
def both (a b : Int × Int) : Bool := isq a.1 a.2 && isq b.1 b.2
def add (a b : Int × Int) : Int × Int := if both a b = true then mk (a.1 * b.2 + b.1 * a.2) (a.2 * b.2) else (0, 0)
def sub (a b : Int × Int) : Int × Int := if both a b = true then mk (a.1 * b.2 - b.1 * a.2) (a.2 * b.2) else (0, 0)
def mul (a b : Int × Int) : Int × Int := if both a b = true then mk (a.1 * b.1) (a.2 * b.2) else (0, 0)
def div (a b : Int × Int) : Int × Int := if both a b = true then mk (a.1 * b.2) (a.2 * b.1) else (0, 0)

theorem isq_iff (n d : Int) : isq n d = true ↔ (-1073741824 ≤ n ∧ n ≤ 1073741824 ∧ 1 ≤ d ∧ d ≤ 1073741824 ∧ n.natAbs.gcd d.natAbs = 1) := by
  unfold isq; exact decide_eq_true_iff

theorem mul_bd (x y : Int) (hx : -1073741824 ≤ x ∧ x ≤ 1073741824) (hy : -1073741824 ≤ y ∧ y ≤ 1073741824) :
    -1152921504606846976 ≤ x * y ∧ x * y ≤ 1152921504606846976 := by
  have h : (x * y).natAbs ≤ 1073741824 * 1073741824 := by
    rw [Int.natAbs_mul]; exact Nat.mul_le_mul (by omega) (by omega)
  omega
theorem low_zero (s : Bool) (n : Nat) : low s n 0 = (0, 0) := by simp [low]
/-- Opposite signs of both change nothing. -/
theorem mk_neg (n d : Int) (hd : d ≠ 0) : mk (-n) (-d) = mk n d := by
  unfold mk
  rw [Int.natAbs_neg, Int.natAbs_neg]
  by_cases h0 : n = 0
  · subst h0
    unfold low
    simp
  · congr 1
    have a1 : decide (-n < 0) = !decide (n < 0) := by
      by_cases h : n < 0
      · simp [h]; omega
      · simp [h]; omega
    have a2 : decide (-d < 0) = !decide (d < 0) := by
      by_cases h : d < 0
      · simp [h]; omega
      · simp [h]; omega
    rw [a1, a2]; cases decide (n < 0) <;> cases decide (d < 0) <;> rfl
theorem low_two (s : Bool) (n d : Nat) : low s (2 * n) (2 * d) = low s n d := by
  unfold low
  by_cases hd : d = 0
  · subst hd; simp
  · have h2 : ¬ 2 * d = 0 := by omega
    have e1 : 2 * n / (2 * n).gcd (2 * d) = n / n.gcd d := by rw [Nat.gcd_mul_left]; exact Nat.mul_div_mul_left _ _ (by omega)
    have e2 : 2 * d / (2 * n).gcd (2 * d) = d / n.gcd d := by rw [Nat.gcd_mul_left]; exact Nat.mul_div_mul_left _ _ (by omega)
    rw [e1, e2]; simp only [hd, h2, if_false]
theorem mk_two (n d : Int) : mk (2 * n) (2 * d) = mk n d := by
  unfold mk
  rw [Int.natAbs_mul, Int.natAbs_mul]
  have a1 : decide (2 * n < 0) = decide (n < 0) := by congr 1; apply propext; omega
  have a2 : decide (2 * d < 0) = decide (d < 0) := by congr 1; apply propext; omega
  rw [a1, a2]; exact low_two _ _ _
theorem gcd_pos' (n d : Int) (hd : d ≠ 0) : 0 < n.natAbs.gcd d.natAbs := Nat.gcd_pos_of_pos_right _ (by omega)
/-- In lowest terms. -/
theorem low_cop (n d : Nat) (hd : 0 < d) : (n / n.gcd d).gcd (d / n.gcd d) = 1 := Nat.gcd_div_gcd_div_gcd_of_pos_right hd
/-- Over a number above 0: by the greatest common divisor. -/
theorem mk_pos (n d : Int) (hd : 0 < d) (g : Int) (hg : g = (n.natAbs.gcd d.natAbs : Nat)) :
    (isq (n.tdiv g) (d.tdiv g) = true → mk n d = (n.tdiv g, d.tdiv g)) ∧ (isq (n.tdiv g) (d.tdiv g) = false → mk n d = (0, 0)) := by
  have hgp := gcd_pos' n d (by omega)
  have e1 : (n.tdiv g).natAbs = n.natAbs / n.natAbs.gcd d.natAbs := by rw [Int.natAbs_tdiv, hg]; simp only [Int.natAbs_natCast]; rfl
  have e2 : (d.tdiv g).natAbs = d.natAbs / n.natAbs.gcd d.natAbs := by rw [Int.natAbs_tdiv, hg]; simp only [Int.natAbs_natCast]; rfl
  have cop := low_cop n.natAbs d.natAbs (by omega)
  have dn : 0 ≤ d.tdiv g := Int.tdiv_nonneg (by omega) (by omega)
  have dp : 0 < d.natAbs / n.natAbs.gcd d.natAbs := Nat.div_pos (Nat.le_of_dvd (by omega) (Nat.gcd_dvd_right _ _)) hgp
  have ns : 0 ≤ n → 0 ≤ n.tdiv g := fun h => Int.tdiv_nonneg h (by omega)
  have nn : n < 0 → n.tdiv g ≤ 0 := fun h => by
    have : n.tdiv g = -((-n).tdiv g) := by rw [Int.neg_tdiv]; omega
    have h2 : 0 ≤ (-n).tdiv g := Int.tdiv_nonneg (by omega) (by omega)
    omega
  have hm : mk n d = if n.natAbs / n.natAbs.gcd d.natAbs > 1073741824 ∨ d.natAbs / n.natAbs.gcd d.natAbs > 1073741824 then (0, 0) else (n.tdiv g, d.tdiv g) := by
    unfold mk low
    rw [if_neg (by omega)]
    split
    · rfl
    · have hdd : decide (d < 0) = false := by simp; omega
      rw [hdd]
      by_cases h : n < 0
      · have := nn h
        simp only [h, decide_true, bne_iff_ne]
        simp
        omega
      · have := ns (by omega)
        simp only [h, decide_false]
        simp
        omega
  rw [hm]
  have hi : isq (n.tdiv g) (d.tdiv g) = true ↔ ¬ (n.natAbs / n.natAbs.gcd d.natAbs > 1073741824 ∨ d.natAbs / n.natAbs.gcd d.natAbs > 1073741824) := by
    rw [isq_iff, e1, e2]
    constructor
    · rintro ⟨a, b, c, d', _⟩; omega
    · intro h; refine ⟨?_, ?_, ?_, ?_, cop⟩ <;> omega
  constructor
  · intro h; rw [if_neg (hi.1 h)]
  · intro h; rw [if_pos]; apply Classical.byContradiction; intro hc; rw [hi.2 hc] at h; cases h
theorem mk_isq (n d : Int) : mk n d = (0, 0) ∨ isq (mk n d).1 (mk n d).2 = true := by
  by_cases hd : d = 0
  · left; unfold mk; rw [hd]; exact low_zero _ _
  · have key : ∀ n d : Int, 0 < d → mk n d = (0, 0) ∨ isq (mk n d).1 (mk n d).2 = true := fun n d hd => by
      cases h : isq (n.tdiv (n.natAbs.gcd d.natAbs : Nat)) (d.tdiv (n.natAbs.gcd d.natAbs : Nat))
      · left; exact (mk_pos n d hd _ rfl).2 h
      · right; rw [(mk_pos n d hd _ rfl).1 h]; exact h
    by_cases hp : 0 < d
    · exact key n d hp
    · rw [← mk_neg n d hd]; exact key _ _ (by omega)
theorem mk_least_d (n : Int) (hn : n.natAbs % 2 = 1) : mk n (-9223372036854775808) = (0, 0) := by
  unfold mk low
  rw [if_neg (by decide), if_pos]
  right
  have h1 : Nat.gcd n.natAbs 9223372036854775808 = 1 := by
    have : (9223372036854775808 : Nat) = 2 ^ 63 := by decide
    rw [this]
    exact Nat.Coprime.pow_right 63 (by unfold Nat.Coprime; rw [Nat.gcd_comm, Nat.gcd_rec, hn]; decide)
  have : (-9223372036854775808 : Int).natAbs = 9223372036854775808 := rfl
  rw [this, h1]; decide
theorem mk_zero (n : Int) : mk n 0 = (0, 0) := by unfold mk; exact low_zero _ _
/-- 2^63 over an odd number, or an odd number over it, is beyond. -/
theorem mk_least_n (d : Int) (hd : d.natAbs % 2 = 1) : mk (-9223372036854775808) d = (0, 0) := by
  unfold mk low
  rw [if_neg (by omega), if_pos]
  left
  have h1 : Nat.gcd 9223372036854775808 d.natAbs = 1 := by
    have : (9223372036854775808 : Nat) = 2 ^ 63 := by decide
    rw [this]
    exact Nat.Coprime.pow_left 63 (by unfold Nat.Coprime; rw [Nat.gcd_rec, hd]; decide)
  have : (-9223372036854775808 : Int).natAbs = 9223372036854775808 := rfl
  rw [this, h1]; decide
/-- What is known of two numbers' parts and their products. -/
structure Bd (an ad bn bd : Int) : Prop where
  a1 : -1073741824 ≤ an ∧ an ≤ 1073741824
  a2 : 1 ≤ ad ∧ ad ≤ 1073741824
  b1 : -1073741824 ≤ bn ∧ bn ≤ 1073741824
  b2 : 1 ≤ bd ∧ bd ≤ 1073741824
  nn : -1152921504606846976 ≤ an * bn ∧ an * bn ≤ 1152921504606846976
  nd : -1152921504606846976 ≤ an * bd ∧ an * bd ≤ 1152921504606846976
  dn : -1152921504606846976 ≤ bn * ad ∧ bn * ad ≤ 1152921504606846976
  dn' : -1152921504606846976 ≤ ad * bn ∧ ad * bn ≤ 1152921504606846976
  dd : 1 ≤ ad * bd ∧ ad * bd ≤ 1152921504606846976
theorem bd_of {an ad bn bd : Int} (h : both (an, ad) (bn, bd) = true) : Bd an ad bn bd := by
  unfold both at h
  rw [Bool.and_eq_true] at h
  obtain ⟨h1, h2⟩ := h
  have h1 := (isq_iff _ _).1 h1
  have h2 := (isq_iff _ _).1 h2
  refine ⟨by omega, by omega, by omega, by omega, mul_bd _ _ (by omega) (by omega), mul_bd _ _ (by omega) (by omega), mul_bd _ _ (by omega) (by omega), mul_bd _ _ (by omega) (by omega), ?_, (mul_bd _ _ (by omega) (by omega)).2⟩
  have : 0 < ad * bd := Int.mul_pos (by omega) (by omega)
  omega
end Q
end Go.Proofs.YtiiddikiaafanaaGreatDoor

/-
  Plain mathematics of numbers, part two: comparing, rounding, rests.
-/
namespace Go.Proofs.YtiiddikiaafanaaGreatDoor
namespace Q
def cmpi (x y : Int) : Int := if x < y then -1 else if y < x then 1 else 0
def rank (a : Int × Int) : Int := if isq a.1 a.2 = true then 1 else 0
def cmp (a b : Int × Int) : Int := if both a b = true then cmpi (a.1 * b.2) (b.1 * a.2) else cmpi (rank a) (rank b)
def valid (a : Int × Int) : Bool := (a.1 == 0 && a.2 == 0) || isq a.1 a.2
def clean (a : Int × Int) : Int × Int := if isq a.1 a.2 = true then a else (0, 0)
def neg (a : Int × Int) : Int × Int := if isq a.1 a.2 = true then (-a.1, a.2) else (0, 0)
def abs (a : Int × Int) : Int × Int := if isq a.1 a.2 = true then (if a.1 < 0 then (-a.1, a.2) else a) else (0, 0)
def floor (a : Int × Int) : Int × Int := if isq a.1 a.2 = true then mk (a.1 / a.2) 1 else (0, 0)
def up (n d : Int) : Int := if d < 2 * (n % d) ∨ (2 * (n % d) = d ∧ (n / d).tmod 2 ≠ 0) then n / d + 1 else n / d
def round (a : Int × Int) : Int × Int := if isq a.1 a.2 = true then mk (up a.1 a.2) 1 else (0, 0)
def frac (a : Int × Int) : Int × Int := sub a (floor a)
def min (a b : Int × Int) : Int × Int := if both a b = true then (if cmp b a < 0 then b else a) else (0, 0)
def max (a b : Int × Int) : Int × Int := if both a b = true then (if 0 < cmp b a then b else a) else (0, 0)
/-- Quotient and rest, the rest of the divisor's sign. -/
def turn (p d : Int) : Bool := (p.tmod d != 0) && (decide (p.tmod d < 0) != decide (d < 0))
def dq (p d : Int) : Int := if turn p d = true then p.tdiv d - 1 else p.tdiv d
def dr (p d : Int) : Int := if turn p d = true then p.tmod d + d else p.tmod d
def mod (a b : Int × Int) : Int × Int := if (both a b && b.1 != 0) = true then mk (dr (a.1 * b.2) (b.1 * a.2)) (a.2 * b.2) else (0, 0)

theorem tmod_lt (p d : Int) (hd : d ≠ 0) : (p.tmod d).natAbs < d.natAbs := by
  rw [Int.natAbs_tmod]; exact Nat.mod_lt _ (by omega)
theorem tdiv_bd (p d B : Int) (hB : -B ≤ p ∧ p ≤ B) : -B ≤ p.tdiv d ∧ p.tdiv d ≤ B := by
  have h : (p.tdiv d).natAbs ≤ p.natAbs := by rw [Int.natAbs_tdiv]; exact Nat.div_le_self _ _
  omega
theorem dqr (p d : Int) (hd : 0 < d) : dq p d = p / d ∧ dr p d = p % d := by
  have key : dr p d + d * dq p d = p ∧ 0 ≤ dr p d ∧ dr p d < d := by
    have h1 := Int.mul_tdiv_add_tmod p d
    have h2 := tmod_lt p d (by omega)
    unfold dr dq turn
    by_cases h0 : p.tmod d = 0
    · simp [h0]; omega
    · by_cases hn : p.tmod d < 0
      · have hd' : ¬ d < 0 := by omega
        simp [h0, hn, hd']
        rw [Int.mul_sub]; omega
      · have hd' : ¬ d < 0 := by omega
        simp [hn, hd']; omega
  have := (Int.ediv_emod_unique hd).2 key
  exact ⟨this.1.symm, this.2.symm⟩
theorem floor_div (p d : Int) (hd : 0 < d) : p / d = if p.tmod d < 0 then p.tdiv d - 1 else p.tdiv d := by
  rw [← (dqr p d hd).1]
  unfold dq turn
  have hd' : ¬ d < 0 := by omega
  by_cases h0 : p.tmod d = 0
  · simp [h0]
  · by_cases hn : p.tmod d < 0
    · simp [h0, hn, hd']
    · simp [hn, hd']
theorem div_bd (p d B : Int) (hd : 0 < d) (hB : -B ≤ p ∧ p ≤ B) : -B ≤ p / d ∧ p / d ≤ B := by
  have hd' : (1 : Int) ≤ d := hd
  have hB0 : 0 ≤ B := by omega
  constructor
  · have : -B ≤ p / d ↔ -B * d ≤ p := Int.le_ediv_iff_mul_le hd
    rw [this]
    have : B * 1 ≤ B * d := Int.mul_le_mul_of_nonneg_left hd' hB0
    rw [Int.neg_mul]; omega
  · have : p / d < B + 1 ↔ p < (B + 1) * d := Int.ediv_lt_iff_lt_mul hd
    have h2 : (B + 1) * 1 ≤ (B + 1) * d := Int.mul_le_mul_of_nonneg_left hd' (by omega)
    have := this.2 (by omega)
    omega
theorem cmpi_flip (x y : Int) : cmpi y x = -cmpi x y := by
  unfold cmpi; split <;> split <;> (try split) <;> omega
theorem both_flip (a b : Int × Int) : both a b = both b a := by unfold both; rw [Bool.and_comm]
theorem cmp_flip (a b : Int × Int) : cmp b a = -cmp a b := by
  unfold cmp; rw [both_flip b a]; split <;> exact cmpi_flip _ _
theorem isq_neg (n d : Int) : isq (-n) d = isq n d := by
  rw [Bool.eq_iff_iff, isq_iff, isq_iff, Int.natAbs_neg]; omega
theorem add_neg (a b : Int × Int) : add a (neg b) = sub a b := by
  unfold add sub neg both
  cases h : isq b.1 b.2
  · have : isq 0 0 = false := by decide
    simp [this]
  · simp only [if_true, isq_neg, h, Bool.and_true]
    split
    · congr 1; rw [Int.neg_mul]; omega
    · rfl
theorem max_neg (a : Int × Int) : max a (neg a) = abs a := by
  unfold max neg abs both
  cases h : isq a.1 a.2
  · simp
  · have hq := (isq_iff _ _).1 h
    simp only [if_true, isq_neg, h, Bool.and_true]
    have hc : cmp (-a.1, a.2) a = cmpi (-a.1 * a.2) (a.1 * a.2) := by
      unfold cmp both; simp only [isq_neg, h, Bool.and_true, if_true]
    rw [hc]
    by_cases hn : a.1 < 0
    · have : a.1 * a.2 < 0 := Int.mul_neg_of_neg_of_pos hn (by omega)
      have h1 : cmpi (-a.1 * a.2) (a.1 * a.2) = 1 := by unfold cmpi; rw [Int.neg_mul]; split; omega; split; rfl; omega
      rw [h1]; simp [hn]
    · have : 0 ≤ a.1 * a.2 := Int.mul_nonneg (by omega) (by omega)
      have h1 : ¬ 0 < cmpi (-a.1 * a.2) (a.1 * a.2) := by unfold cmpi; rw [Int.neg_mul]; split; omega; split <;> omega
      simp [hn, h1]
end Q
end Go.Proofs.YtiiddikiaafanaaGreatDoor

/-
  Plain mathematics of numbers, part three: the number that a Q is; what the laws on rounding ask.
-/
namespace Go.Proofs.YtiiddikiaafanaaGreatDoor
namespace Q
/-- The number that a Q is. -/
def val (p : Int × Int) : Rat := Rat.divInt p.1 p.2
theorem val_mk {n d : Int} (hd : d ≠ 0) (h : isq (mk n d).1 (mk n d).2 = true) : val (mk n d) = Rat.divInt n d := by
  have key : ∀ n d : Int, 0 < d → isq (mk n d).1 (mk n d).2 = true → val (mk n d) = Rat.divInt n d := fun n d hd h => by
    have hg := gcd_pos' n d (by omega)
    have g1 : ((n.natAbs.gcd d.natAbs : Nat) : Int) ∣ n := Int.ofNat_dvd_left.2 (Nat.gcd_dvd_left _ _)
    have g2 : ((n.natAbs.gcd d.natAbs : Nat) : Int) ∣ d := Int.ofNat_dvd_left.2 (Nat.gcd_dvd_right _ _)
    have e : mk n d = (n.tdiv ((n.natAbs.gcd d.natAbs : Nat) : Int), d.tdiv ((n.natAbs.gcd d.natAbs : Nat) : Int)) := by
      cases hi : isq (n.tdiv ((n.natAbs.gcd d.natAbs : Nat) : Int)) (d.tdiv ((n.natAbs.gcd d.natAbs : Nat) : Int))
      · rw [(mk_pos n d hd _ rfl).2 hi] at h; exact absurd h (by decide)
      · exact (mk_pos n d hd _ rfl).1 hi
    have hdp := ((isq_iff _ _).1 h).2.2.1
    rw [e] at hdp ⊢
    generalize ((n.natAbs.gcd d.natAbs : Nat) : Int) = g at *
    unfold val
    rw [Rat.divInt_eq_divInt_iff (by simp only at hdp ⊢; omega) (by omega)]
    have e1 := Int.mul_tdiv_cancel' g1
    have e2 := Int.mul_tdiv_cancel' g2
    simp only
    generalize n.tdiv g = x at *
    generalize d.tdiv g = y at *
    subst e1
    rw [← e2]
    grind
  by_cases hp : 0 < d
  · exact key n d hp h
  · rw [← mk_neg n d hd] at h ⊢
    rw [key _ _ (by omega) h, Rat.divInt_eq_divInt_iff (by omega) hd]
    grind
theorem isq_none : isq 0 0 = false := by decide
theorem both_iff (a b : Int × Int) : both a b = true ↔ (isq a.1 a.2 = true ∧ isq b.1 b.2 = true) := by unfold both; rw [Bool.and_eq_true]
theorem den_pos {p : Int × Int} (h : isq p.1 p.2 = true) : 0 < p.2 := by have := (isq_iff _ _).1 h; omega
theorem mk_id {a : Int × Int} (h : isq a.1 a.2 = true) : mk a.1 a.2 = a := by
  have h0 := (isq_iff _ _).1 h
  have hp := mk_pos a.1 a.2 (by omega) 1 (by rw [h0.2.2.2.2]; rfl)
  rw [Int.tdiv_one, Int.tdiv_one] at hp
  exact hp.1 h
theorem mk_one {n : Int} (h : -1073741824 ≤ n ∧ n ≤ 1073741824) : mk n 1 = (n, 1) ∧ isq n 1 = true := by
  have hi : isq n 1 = true := (isq_iff _ _).2 ⟨h.1, h.2, by decide, by decide, by simp⟩
  exact ⟨mk_id (a := (n, 1)) hi, hi⟩
theorem floor_val {a : Int × Int} (h : isq a.1 a.2 = true) : floor a = (a.1 / a.2, 1) ∧ isq (a.1 / a.2) 1 = true := by
  have h0 := (isq_iff _ _).1 h
  unfold floor
  rw [if_pos h]
  exact mk_one (div_bd _ _ _ (by omega) (by omega))
theorem frac_val {a : Int × Int} (h : isq a.1 a.2 = true) : frac a = (a.1 % a.2, a.2) ∧ isq (a.1 % a.2) a.2 = true := by
  have h0 := (isq_iff _ _).1 h
  have hf := floor_val h
  have m1 := Int.emod_nonneg a.1 (show a.2 ≠ 0 by omega)
  have m2 := Int.emod_lt_of_pos a.1 (show 0 < a.2 by omega)
  have m3 := Int.mul_ediv_add_emod a.1 a.2
  have hi : isq (a.1 % a.2) a.2 = true := by
    rw [isq_iff]
    refine ⟨by omega, by omega, by omega, by omega, ?_⟩
    have e : a.1 % a.2 = a.1 - a.1 / a.2 * a.2 := by rw [Int.mul_comm]; omega
    have hg : Int.gcd (a.1 % a.2) a.2 = Int.gcd a.1 a.2 := by rw [e]; exact Int.gcd_sub_mul_right_left _ _ _
    unfold Int.gcd at hg
    rw [hg]; exact h0.2.2.2.2
  refine ⟨?_, hi⟩
  unfold frac sub both
  rw [hf.1, h, hf.2, Bool.and_self, if_pos rfl]
  have e1 : a.1 * 1 - a.1 / a.2 * a.2 = a.1 % a.2 := by rw [Int.mul_one, Int.mul_comm]; omega
  simp only
  rw [e1, Int.mul_one]
  exact mk_id (a := (a.1 % a.2, a.2)) hi
theorem dr_sign (p d : Int) : (0 < d → 0 ≤ dr p d ∧ dr p d < d) ∧ (d < 0 → d < dr p d ∧ dr p d ≤ 0) := by
  have h2 := fun hd => tmod_lt p d hd
  constructor
  · intro hd
    have := (dqr p d hd).2
    rw [this]
    exact ⟨Int.emod_nonneg _ (by omega), Int.emod_lt_of_pos _ hd⟩
  · intro hd
    have h3 := h2 (by omega)
    unfold dr turn
    by_cases h0 : p.tmod d = 0
    · simp [h0]; omega
    · by_cases hn : p.tmod d < 0
      · simp [hn, hd]; omega
      · simp [h0, hn, hd]; omega
theorem mk_cross {n d : Int} (hd : d ≠ 0) (h : isq (mk n d).1 (mk n d).2 = true) : (mk n d).1 * d = n * (mk n d).2 := by
  have hv := val_mk hd h
  have hp := den_pos h
  unfold val at hv
  exact (Rat.divInt_eq_divInt_iff (by omega) hd).1 hv
end Q
end Go.Proofs.YtiiddikiaafanaaGreatDoor

/-
  Plain mathematics of numbers, part four: the laws of a field in order, as far as no none comes.
-/
namespace Go.Proofs.YtiiddikiaafanaaGreatDoor
namespace Q
def ofRat (q : Rat) : Int × Int := if q.num.natAbs > 1073741824 ∨ q.den > 1073741824 then (0, 0) else (q.num, (q.den : Int))
theorem mk_rat {n d : Int} (hd : d ≠ 0) : mk n d = ofRat (Rat.divInt n d) := by
  have key : ∀ n d : Int, 0 < d → mk n d = ofRat (Rat.divInt n d) := fun n d hd => by
    have hg : d.gcd n = n.natAbs.gcd d.natAbs := by unfold Int.gcd; exact Nat.gcd_comm _ _
    have hgp := gcd_pos' n d (by omega)
    have hs : d.sign = 1 := Int.sign_eq_one_of_pos hd
    have hdv : ((n.natAbs.gcd d.natAbs : Nat) : Int) ∣ n := Int.ofNat_dvd_left.2 (Nat.gcd_dvd_left _ _)
    have h1 : (Rat.divInt n d).num = n / ((n.natAbs.gcd d.natAbs : Nat) : Int) := by rw [Rat.num_divInt, hg, hs, Int.one_mul]
    have h2 : (Rat.divInt n d).den = d.natAbs / n.natAbs.gcd d.natAbs := by rw [Rat.den_divInt, if_neg (by omega), hg]
    have h3 : (n / ((n.natAbs.gcd d.natAbs : Nat) : Int)).natAbs = n.natAbs / n.natAbs.gcd d.natAbs := by
      obtain ⟨k, hk⟩ := hdv
      generalize n.natAbs.gcd d.natAbs = g at *
      subst hk
      rw [Int.mul_ediv_cancel_left _ (by omega), Int.natAbs_mul, Int.natAbs_natCast, Nat.mul_div_cancel_left _ hgp]
    unfold ofRat
    rw [h1, h2, h3]
    unfold mk low
    rw [if_neg (by omega)]
    have hn : decide (d < 0) = false := by simp; omega
    rw [hn]
    split
    · rfl
    · by_cases h : n < 0
      · have : n / ((n.natAbs.gcd d.natAbs : Nat) : Int) ≤ 0 := by
          obtain ⟨k, hk⟩ := hdv
          generalize n.natAbs.gcd d.natAbs = g at *
          subst hk
          rw [Int.mul_ediv_cancel_left _ (by omega)]
          apply Int.le_of_not_gt
          intro hk0
          have := Int.mul_pos (show (0 : Int) < (g : Int) by omega) hk0
          omega
        simp only [h, decide_true]
        simp
        omega
      · have := Int.ediv_nonneg (show 0 ≤ n by omega) (show (0 : Int) ≤ ((n.natAbs.gcd d.natAbs : Nat) : Int) by omega)
        simp only [h, decide_false]
        simp
        omega
  by_cases hp : 0 < d
  · exact key n d hp
  · rw [← mk_neg n d hd, key _ _ (by omega)]
    congr 1
    rw [Rat.divInt_eq_divInt_iff (by omega) hd]
    grind
end Q
end Go.Proofs.YtiiddikiaafanaaGreatDoor
