import Derived.Test.YtnidbhfpkjggmaaGreatDoorQb
set_option linter.all false
/-
  Plain mathematics of numbers, part three: the number that a Q is; what the laws on rounding ask.
-/
namespace Go.Proofs.YtnidbhfpkjggmaaGreatDoor
namespace Q
/-- The number that a Q is. -/
def val (p : Int × Int) : Rat := Rat.divInt p.1 p.2
theorem val_mk {n d : Int} (hd : d ≠ 0) (h : isq (mk n d).1 (mk n d).2 = true) : val (mk n d) = Rat.divInt n d := by
  have key : ∀ n d : Int, 0 < d → isq (mk n d).1 (mk n d).2 = true → val (mk n d) = Rat.divInt n d := fun n d hd h => by
    have hg := gcd_pos' n d (by omega)
    have g1 : ((n.natAbs.gcd d.natAbs : Nat) : Int) ∣ n := Int.ofNat_dvd_left.2 (Nat.gcd_dvd_left _ _)
    have g2 : ((n.natAbs.gcd d.natAbs : Nat) : Int) ∣ d := Int.ofNat_dvd_left.2 (Nat.gcd_dvd_right _ _)
    have e : mk n d = (n.tdiv ((n.natAbs.gcd d.natAbs : Nat) : Int), d.tdiv ((n.natAbs.gcd d.natAbs : Nat) : Int)) := by
      cases hi : isq (n.tdiv ((n.natAbs.gcd d.natAbs : Nat) : Int)) (d.tdiv ((n.natAbs.gcd d.natAbs : Nat) : Int))
      · rw [(mk_pos n d hd _ rfl).2 hi] at h; exact absurd h (by decide)
      · exact (mk_pos n d hd _ rfl).1 hi
    have hdp := ((isq_iff _ _).1 h).2.2.1
    rw [e] at hdp ⊢
    generalize ((n.natAbs.gcd d.natAbs : Nat) : Int) = g at *
    unfold val
    rw [Rat.divInt_eq_divInt_iff (by simp only at hdp ⊢; omega) (by omega)]
    have e1 := Int.mul_tdiv_cancel' g1
    have e2 := Int.mul_tdiv_cancel' g2
    simp only
    generalize n.tdiv g = x at *
    generalize d.tdiv g = y at *
    subst e1
    rw [← e2]
    grind
  by_cases hp : 0 < d
  · exact key n d hp h
  · rw [← mk_neg n d hd] at h ⊢
    rw [key _ _ (by omega) h, Rat.divInt_eq_divInt_iff (by omega) hd]
    grind
theorem both_iff (a b : Int × Int) : both a b = true ↔ (isq a.1 a.2 = true ∧ isq b.1 b.2 = true) := by unfold both; rw [Bool.and_eq_true]
theorem den_pos {p : Int × Int} (h : isq p.1 p.2 = true) : 0 < p.2 := by have := (isq_iff _ _).1 h; omega
theorem mk_id {a : Int × Int} (h : isq a.1 a.2 = true) : mk a.1 a.2 = a := by
  have h0 := (isq_iff _ _).1 h
  have hp := mk_pos a.1 a.2 (by omega) 1 (by rw [h0.2.2.2.2]; rfl)
  rw [Int.tdiv_one, Int.tdiv_one] at hp
  exact hp.1 h
theorem mk_one {n : Int} (h : -1073741824 ≤ n ∧ n ≤ 1073741824) : mk n 1 = (n, 1) ∧ isq n 1 = true := by
  have hi : isq n 1 = true := (isq_iff _ _).2 ⟨h.1, h.2, by decide, by decide, by simp⟩
  exact ⟨mk_id (a := (n, 1)) hi, hi⟩
theorem mk_cross {n d : Int} (hd : d ≠ 0) (h : isq (mk n d).1 (mk n d).2 = true) : (mk n d).1 * d = n * (mk n d).2 := by
  have hv := val_mk hd h
  have hp := den_pos h
  unfold val at hv
  exact (Rat.divInt_eq_divInt_iff (by omega) hd).1 hv
end Q
end Go.Proofs.YtnidbhfpkjggmaaGreatDoor

/-
  Plain mathematics of numbers, part four: the laws of a field in order, as far as no none comes.
-/
namespace Go.Proofs.YtnidbhfpkjggmaaGreatDoor
namespace Q
def ofRat (q : Rat) : Int × Int := if q.num.natAbs > 1073741824 ∨ q.den > 1073741824 then (0, 0) else (q.num, (q.den : Int))
theorem mk_rat {n d : Int} (hd : d ≠ 0) : mk n d = ofRat (Rat.divInt n d) := by
  have key : ∀ n d : Int, 0 < d → mk n d = ofRat (Rat.divInt n d) := fun n d hd => by
    have hg : d.gcd n = n.natAbs.gcd d.natAbs := by unfold Int.gcd; exact Nat.gcd_comm _ _
    have hgp := gcd_pos' n d (by omega)
    have hs : d.sign = 1 := Int.sign_eq_one_of_pos hd
    have hdv : ((n.natAbs.gcd d.natAbs : Nat) : Int) ∣ n := Int.ofNat_dvd_left.2 (Nat.gcd_dvd_left _ _)
    have h1 : (Rat.divInt n d).num = n / ((n.natAbs.gcd d.natAbs : Nat) : Int) := by rw [Rat.num_divInt, hg, hs, Int.one_mul]
    have h2 : (Rat.divInt n d).den = d.natAbs / n.natAbs.gcd d.natAbs := by rw [Rat.den_divInt, if_neg (by omega), hg]
    have h3 : (n / ((n.natAbs.gcd d.natAbs : Nat) : Int)).natAbs = n.natAbs / n.natAbs.gcd d.natAbs := by
      obtain ⟨k, hk⟩ := hdv
      generalize n.natAbs.gcd d.natAbs = g at *
      subst hk
      rw [Int.mul_ediv_cancel_left _ (by omega), Int.natAbs_mul, Int.natAbs_natCast, Nat.mul_div_cancel_left _ hgp]
    unfold ofRat
    rw [h1, h2, h3]
    unfold mk low
    rw [if_neg (by omega)]
    have hn : decide (d < 0) = false := by simp; omega
    rw [hn]
    split
    · rfl
    · by_cases h : n < 0
      · have : n / ((n.natAbs.gcd d.natAbs : Nat) : Int) ≤ 0 := by
          obtain ⟨k, hk⟩ := hdv
          generalize n.natAbs.gcd d.natAbs = g at *
          subst hk
          rw [Int.mul_ediv_cancel_left _ (by omega)]
          apply Int.le_of_not_gt
          intro hk0
          have := Int.mul_pos (show (0 : Int) < (g : Int) by omega) hk0
          omega
        simp only [h, decide_true]
        simp
        omega
      · have := Int.ediv_nonneg (show 0 ≤ n by omega) (show (0 : Int) ≤ ((n.natAbs.gcd d.natAbs : Nat) : Int) by omega)
        simp only [h, decide_false]
        simp
        omega
  by_cases hp : 0 < d
  · exact key n d hp
  · rw [← mk_neg n d hd, key _ _ (by omega)]
    congr 1
    rw [Rat.divInt_eq_divInt_iff (by omega) hd]
    grind
end Q
end Go.Proofs.YtnidbhfpkjggmaaGreatDoor
