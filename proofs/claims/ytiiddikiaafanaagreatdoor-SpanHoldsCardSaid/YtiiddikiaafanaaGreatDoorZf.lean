import Derived.Test.YtiiddikiaafanaaGreatDoorZr
import Derived.Test.YtiiddikiaafanaaGreatDoorZp
import Derived.Test.YtiiddikiaafanaaGreatDoorQf
set_option linter.all false
/-
  Plain mathematics of formats, part two: what a fraction comes to in a format. No program, no memory.
-/
namespace Go.Proofs.YtiiddikiaafanaaGreatDoor
open Go.RowKit
namespace Z
theorem mk_eq {n d n' d' : Int} (h1 : 0 < d) (h2 : 0 < d') (h : n * d' = n' * d) : Q.mk n d = Q.mk n' d' := by
  rw [Q.mk_rat (by omega), Q.mk_rat (by omega)]
  congr 1
  exact (Rat.divInt_eq_divInt_iff (by omega) (by omega)).2 h
/-- n / d times 2^e, rounded. -/
def rndE (m : Nat) (n d e : Int) : Int := rnd m (n * 2 ^ e.toNat) (d * 2 ^ (-e).toNat)
theorem rndE_pos (m : Nat) (n d : Int) (j : Nat) : rndE m n d (j : Int) = rnd m (n * 2 ^ j) d := by
  unfold rndE
  rw [show (j : Int).toNat = j by omega, show (-(j : Int)).toNat = 0 by omega, Int.pow_zero, Int.mul_one]
theorem rndE_neg (m : Nat) (n d : Int) (j : Nat) : rndE m n d (-(j : Int)) = rnd m n (d * 2 ^ j) := by
  unfold rndE
  rw [show (-(j : Int)).toNat = 0 by omega, show (- -(j : Int)).toNat = j by omega, Int.pow_zero, Int.mul_one]
def lst (fx : Bool) (I F : Nat) : Int × Int := if fx = true then Q.mk (-(2 ^ (I + F))) (2 ^ F) else Q.mk (-((2 ^ I - 1) * 2 ^ F)) 1
def grt (fx : Bool) (I F : Nat) : Int × Int := if fx = true then Q.mk (2 ^ (I + F) - 1) (2 ^ F) else Q.mk ((2 ^ I - 1) * 2 ^ F) 1
def bey (o : Nat) (fx : Bool) (I F : Nat) (neg : Bool) : Int × Int := if o = 2 then (0, 0) else if neg = true then lst fx I F else grt fx I F
/-- A fix: o is 0 sat, 1 wrap, 2 none. -/
def fixV (o m I F : Nat) (n d : Int) : Int × Int :=
  if o = 1 then Q.mk ((rnd m (n * 2 ^ F) d + 2 ^ (I + F)) % (2 * 2 ^ (I + F)) - 2 ^ (I + F)) (2 ^ F)
  else if -(2 ^ (I + F)) ≤ rnd m (n * 2 ^ F) d ∧ rnd m (n * 2 ^ F) d < 2 ^ (I + F) then Q.mk (rnd m (n * 2 ^ F) d) (2 ^ F)
  else bey o true I F (decide (n < 0))
/-- The least exponent from x on. -/
def flx (I : Nat) (n d : Int) : Nat → Int → Int
  | 0, x => x
  | k + 1, x => if below n d (I + x) = true then x else flx I n d k (x + 1)
theorem flx_spec (I : Nat) (n d : Int) (k : Nat) (x : Int) : x ≤ flx I n d k x ∧ flx I n d k x ≤ x + k ∧ (flx I n d k x < x + k → below n d (I + flx I n d k x) = true) ∧ (∀ y, x ≤ y → y < flx I n d k x → below n d (I + y) = false) := by
  induction k generalizing x with
  | zero => exact ⟨by simp [flx], by simp [flx], fun h => by simp [flx] at h, fun y h1 h2 => by simp [flx] at h2; omega⟩
  | succ k ih =>
    unfold flx
    split
    · rename_i h
      exact ⟨by omega, by omega, fun _ => h, fun y h1 h2 => by omega⟩
    · rename_i h
      obtain ⟨a, b, c, e⟩ := ih (x + 1)
      refine ⟨by omega, by omega, fun h2 => c (by omega), fun y h1 h2 => ?_⟩
      by_cases hy : y = x
      · subst hy; simpa using h
      · exact e y (by omega) h2
def pw (m x : Int) : Int × Int := if x < 0 then Q.mk m (2 ^ (-x).toNat) else Q.mk (m * 2 ^ x.toNat) 1
def expo (I F : Nat) (n d : Int) : Int := flx I n d (2 * F + 1) (-(F : Int))
/-- A float: o is 0 sat, 2 none. -/
def floatV (o m I F : Nat) (n d : Int) : Int × Int :=
  if expo I F n d = F + 1 then bey o false I F (decide (n < 0))
  else if expo I F n d = F ∧ (rndE m n d (-expo I F n d) = 2 ^ I ∨ rndE m n d (-expo I F n d) = -(2 ^ I)) then bey o false I F (decide (n < 0))
  else pw (rndE m n d (-expo I F n d)) (expo I F n d)
theorem pw_carry (a x : Int) : pw (2 * a) x = pw a (x + 1) := by
  unfold pw
  by_cases h : x < -1
  · rw [if_pos (by omega), if_pos (by omega)]
    obtain ⟨j, hj⟩ := Int.eq_ofNat_of_zero_le (show 0 ≤ -x - 2 by omega)
    rw [show (-x).toNat = j + 1 + 1 by omega, show (-(x + 1)).toNat = j + 1 by omega]
    have := p2_pos (j + 1)
    have := p2_pos (j + 1 + 1)
    refine mk_eq (by omega) (by omega) ?_
    rw [Int.pow_succ 2 (j + 1)]; rw [Int.mul_comm 2 a, Int.mul_assoc, Int.mul_comm 2]
  · by_cases h2 : x = -1
    · subst h2
      rw [if_pos (by omega), if_neg (by omega)]
      refine mk_eq (by decide) (by decide) ?_
      simp; omega
    · rw [if_neg (by omega), if_neg (by omega)]
      obtain ⟨j, hj⟩ := Int.eq_ofNat_of_zero_le (show 0 ≤ x by omega)
      rw [show x.toNat = j by omega, show (x + 1).toNat = j + 1 by omega, Int.pow_succ, Int.mul_comm 2 a, Int.mul_assoc, Int.mul_comm 2]
theorem pw_zero (x : Int) : pw 0 x = (0, 1) := by
  have h0 : Q.mk 0 1 = (0, 1) := by decide
  unfold pw
  split
  · rw [← h0]
    have := p2_pos (-x).toNat
    exact mk_eq (by omega) (by decide) (by simp)
  · rw [Int.zero_mul]; exact h0
/-- Below, in one form. -/
theorem below_iff (n d e : Int) (a b : Nat) (h : (a : Int) - b = e) : below n d e = true ↔ (n.natAbs : Int) * 2 ^ b < d * 2 ^ a := by
  by_cases he : 0 ≤ e
  · obtain ⟨j, rfl⟩ := Int.eq_ofNat_of_zero_le he
    rw [below_pos, decide_eq_true_iff]
    rw [show a = j + b by omega, p2_add, ← Int.mul_assoc]
    exact (Int.mul_lt_mul_right (Int.pow_pos (by decide))).symm
  · obtain ⟨j, hj⟩ := Int.eq_ofNat_of_zero_le (show 0 ≤ -e by omega)
    rw [show e = -(j : Int) by omega, below_neg, decide_eq_true_iff]
    rw [show b = j + a by omega, p2_add, ← Int.mul_assoc]
    exact (Int.mul_lt_mul_right (Int.pow_pos (by decide))).symm
theorem natAbs_cases (n : Int) : (0 ≤ n ∧ (n.natAbs : Int) = n) ∨ (n < 0 ∧ (n.natAbs : Int) = -n) := by omega
/-- Where a number is not below 2^e, what is rounded is not either. -/
theorem rnd_big (m : Nat) (n d b : Int) (hd : 0 < d) (h : b * d ≤ (n.natAbs : Int)) : (0 ≤ n ∧ b ≤ rnd m n d) ∨ (n < 0 ∧ rnd m n d ≤ -b) := by
  rcases natAbs_cases n with ⟨h1, h2⟩ | ⟨h1, h2⟩
  · exact Or.inl ⟨h1, rnd_ge m n d b hd (by omega)⟩
  · exact Or.inr ⟨h1, rnd_le m n d (-b) hd (by rw [Int.neg_mul]; omega)⟩
theorem rnd_small (m : Nat) (n d b : Int) (hd : 0 < d) (h : (n.natAbs : Int) ≤ b * d) : -b ≤ rnd m n d ∧ rnd m n d ≤ b :=
  ⟨rnd_ge m n d (-b) hd (by rw [Int.neg_mul]; omega), rnd_le m n d b hd (by omega)⟩
theorem natAbs_p2 (n : Int) (j : Nat) : ((n * 2 ^ j).natAbs : Int) = (n.natAbs : Int) * 2 ^ j := by
  rw [Int.natAbs_mul, Int.natCast_mul]
  have := p2_pos j
  rw [show (((2 : Int) ^ j).natAbs : Int) = 2 ^ j by omega]
/-- What lies beyond a fix's turn is beyond its range. -/
theorem fix_over (m I F : Nat) (n d : Int) (hd : 0 < d) (h : below n d ((I + 1 : Nat) : Int) = false) : ¬ (-(2 ^ (I + F)) ≤ rnd m (n * 2 ^ F) d ∧ rnd m (n * 2 ^ F) d < 2 ^ (I + F)) := by
  have h1 : d * 2 ^ (I + 1) ≤ (n.natAbs : Int) := by rw [below_pos, decide_eq_false_iff_not] at h; omega
  have h2 : (2 * 2 ^ (I + F)) * d ≤ ((n * 2 ^ F).natAbs : Int) := by
    rw [natAbs_p2]
    have h3 : d * 2 ^ (I + 1) * 2 ^ F ≤ (n.natAbs : Int) * 2 ^ F := Int.mul_le_mul_of_nonneg_right h1 (by have := p2_pos F; omega)
    have e : d * 2 ^ (I + 1) * 2 ^ F = 2 * 2 ^ (I + F) * d := by
      rw [Int.mul_assoc, ← p2_add, Int.mul_comm d, show I + 1 + F = I + F + 1 by omega, Int.pow_succ, Int.mul_comm (2 ^ (I + F)) 2]
    omega
  have h4 := p2_pos (I + F)
  rcases rnd_big m (n * 2 ^ F) d _ hd h2 with h5 | h5 <;> omega
/-- What is below a fix's turn stays small. -/
theorem fix_small (m I F : Nat) (n d : Int) (hd : 0 < d) (h : below n d ((I + 1 : Nat) : Int) = true) : -(2 * 2 ^ (I + F)) ≤ rnd m (n * 2 ^ F) d ∧ rnd m (n * 2 ^ F) d ≤ 2 * 2 ^ (I + F) := by
  have h1 : (n.natAbs : Int) < d * 2 ^ (I + 1) := by rw [below_pos, decide_eq_true_iff] at h; omega
  apply rnd_small m _ _ _ hd
  rw [natAbs_p2]
  have h3 : (n.natAbs : Int) * 2 ^ F ≤ d * 2 ^ (I + 1) * 2 ^ F := Int.mul_le_mul_of_nonneg_right (by omega) (by have := p2_pos F; omega)
  have e : d * 2 ^ (I + 1) * 2 ^ F = 2 * 2 ^ (I + F) * d := by
    rw [Int.mul_assoc, ← p2_add, Int.mul_comm d, show I + 1 + F = I + F + 1 by omega, Int.pow_succ, Int.mul_comm (2 ^ (I + F)) 2]
  omega
/-- Whole turns taken away. -/
theorem fix_turns (m m' I F : Nat) (n d q : Int) (hd : 0 < d) (hm : (m' = m ∧ m < 2) ∨ (m' = m ∧ m = 2 ∧ (n - q * (d * 2 ^ (I + 1)) = 0 ∨ (n - q * (d * 2 ^ (I + 1)) < 0 ↔ n < 0))) ∨ (m = 2 ∧ m' = 0 ∧ 0 ≤ n) ∨ (m = 2 ∧ m' = 3 ∧ n < 0)) :
    (rnd m' ((n - q * (d * 2 ^ (I + 1))) * 2 ^ F) d + 2 ^ (I + F)) % (2 * 2 ^ (I + F)) = (rnd m (n * 2 ^ F) d + 2 ^ (I + F)) % (2 * 2 ^ (I + F)) := by
  have hp := p2_pos F
  have hpi := p2_pos (I + F)
  have e : n * 2 ^ F = (n - q * (d * 2 ^ (I + 1))) * 2 ^ F + q * (2 * 2 ^ (I + F)) * d := by
    rw [Int.sub_mul]
    have : q * (d * 2 ^ (I + 1)) * 2 ^ F = q * (2 * 2 ^ (I + F)) * d := by
      rw [Int.mul_assoc, Int.mul_assoc, Int.mul_assoc, ← p2_add, show I + 1 + F = I + F + 1 by omega, Int.pow_succ, Int.mul_comm (2 ^ (I + F)) 2, Int.mul_comm d]
    omega
  have key : rnd m (n * 2 ^ F) d = rnd m' ((n - q * (d * 2 ^ (I + 1))) * 2 ^ F) d + q * (2 * 2 ^ (I + F)) := by
    have hs : ∀ x : Int, (x * 2 ^ F < 0 ↔ x < 0) := fun x => by
      constructor
      · intro h; apply Classical.byContradiction; intro hc
        have := Int.mul_nonneg (show 0 ≤ x by omega) (show (0 : Int) ≤ 2 ^ F by omega); omega
      · intro h; exact Int.mul_neg_of_neg_of_pos h (by omega)
    have hev : q * (2 * 2 ^ (I + F)) % 2 = 0 := by rw [Int.mul_left_comm]; omega
    rcases hm with ⟨rfl, hm⟩ | ⟨rfl, rfl, hm⟩ | ⟨rfl, rfl, hn⟩ | ⟨rfl, rfl, hn⟩
    · rw [e]
      refine rnd_add _ _ _ _ hd ?_
      have : m' = 0 ∨ m' = 1 := by omega
      rcases this with rfl | rfl
      · exact Or.inl rfl
      · exact Or.inr (Or.inr (Or.inl ⟨rfl, hev⟩))
    · rw [e]
      refine rnd_add _ _ _ _ hd (Or.inr (Or.inr (Or.inr ⟨rfl, ?_⟩)))
      rcases hm with hm | hm
      · left; rw [hm, Int.zero_mul, Int.zero_emod]
      · right; rw [← e, hs, hs]; exact hm
    · have : rnd 2 (n * 2 ^ F) d = rnd 0 (n * 2 ^ F) d := by
        have := not_congr (hs n)
        rw [rnd_2, rnd_0, if_neg (by intro h; exact this.2 (by omega) h.1)]
      rw [this, e]
      exact rnd_add _ _ _ _ hd (Or.inl rfl)
    · have : rnd 2 (n * 2 ^ F) d = rnd 3 (n * 2 ^ F) d := by
        rw [rnd_2, rnd_3]
        simp only [(hs n).2 hn, true_and]
      rw [this, e]
      exact rnd_add _ _ _ _ hd (Or.inr (Or.inl rfl))
  rw [key]
  rw [show rnd m' ((n - q * (d * 2 ^ (I + 1))) * 2 ^ F) d + q * (2 * 2 ^ (I + F)) + 2 ^ (I + F) = rnd m' ((n - q * (d * 2 ^ (I + 1))) * 2 ^ F) d + 2 ^ (I + F) + q * (2 * 2 ^ (I + F)) by omega]
  rw [Int.add_mul_emod_self_right]
end Z
end Go.Proofs.YtiiddikiaafanaaGreatDoor
