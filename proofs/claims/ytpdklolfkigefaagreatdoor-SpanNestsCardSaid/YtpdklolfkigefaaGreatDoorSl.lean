/-
  Spans as plain values: the greatest common Den, the end that decides: the program's and the specification's readings are the same plain functions.
-/
import Derived.Test.YtpdklolfkigefaaGreatDoorSk
set_option linter.all false
namespace Go.Proofs.YtpdklolfkigefaaGreatDoor
open Go.Pv Go.RowKit

theorem gcd_eq {a b : Int} (h0 : 0 ≤ a) (h1 : a ≤ 1073741824) (h2 : 0 ≤ b) (h3 : b ≤ 1073741824) (k : Int → Option DV) : span_greatestCommon a b k = k ((a.natAbs.gcd b.natAbs : Nat) : Int) := by
  obtain ⟨A, rfl⟩ := nat_of h0
  obtain ⟨B, rfl⟩ := nat_of h2
  unfold span_greatestCommon B_span_greatestCommon ratio_Make
  have hd : decide ((-9223372036854775808 ≤ (A : Int) ∧ (A : Int) ≤ 9223372036854775807) ∧ (-9223372036854775808 ≤ (B : Int) ∧ (B : Int) ≤ 9223372036854775807)) = true := decide_eq_true (by omega)
  have hw : IntKind.wrap .i64 ((A : Int) + (B : Int)) = (A : Int) + (B : Int) := IntWalk.i64_in _ (by omega)
  simp only [hd, hw, cond_true, Int.natAbs_natCast]
  by_cases ha : A = 0
  · subst ha; simp
  by_cases hb : B = 0
  · subst hb; simp
  have hv := mk_div (A := A) (B := B) (by omega) (by omega) hb
  have ha' : ((A : Int) == 0) = false := by simp [ha]
  have hb' : ((B : Int) == 0) = false := by simp [hb]
  have hv' : (((B / A.gcd B : Nat) : Int) == 0) = false := beq_false_of_ne fun h => hv (Int.ofNat_inj.1 (h : ((B / A.gcd B : Nat) : Int) = ((0 : Nat) : Int)))
  have hg : A.gcd B ≤ B := Nat.gcd_le_right A (Nat.pos_of_ne_zero hb)
  rw [mk_den (by omega) (by omega) hb]
  simp only [ha', hb', hv', cond_false, Bool.not_false, cond_true]
  rw [show Int.tdiv (B : Int) ((B / A.gcd B : Nat) : Int) = ((B / (B / A.gcd B) : Nat) : Int) from rfl, Nat.div_div_self (Nat.gcd_dvd_right A B) hb, IntWalk.i64_in _ (by omega)]
theorem rgcd_eq {a b : Int} (h0 : 0 ≤ a) (h1 : a ≤ 1073741824) (h2 : 0 ≤ b) (h3 : b ≤ 1073741824) (k : Int → Option DV) : serinetteref01_Divisor a b k = k ((a.natAbs.gcd b.natAbs : Nat) : Int) := by
  unfold serinetteref01_Divisor
  have hd : decide ((-9223372036854775807 ≤ a ∧ a ≤ 9223372036854775807) ∧ (-9223372036854775807 ≤ b ∧ b ≤ 9223372036854775807)) = true := decide_eq_true (by omega)
  rw [hd]; rfl
namespace S
def give (f : Int × Int → Int × Int → Int × Int) (p q : Int × Int) : Int × Int := if Q.isq p.1 p.2 = true then (if Q.isq q.1 q.2 = true then f p q else p) else q
end S
theorem clean_valid {a b : Int} (h : Q.valid (a, b) = true) : Q.clean (a, b) = (a, b) := by
  unfold Q.clean
  cases hq : Q.isq a b
  · have e1 : a = 0 ∧ b = 0 := by simpa [Q.valid, hq] using h
    obtain ⟨rfl, rfl⟩ := e1; rfl
  · rfl
theorem give_min {a b c d : Int} (h : Q.valid (a, b) = true) (h2 : Q.valid (c, d) = true) (k : Int → Int → Option DV) : span_givingWay_ratio_Min a b c d k = k (S.give Q.min (a, b) (c, d)).1 (S.give Q.min (a, b) (c, d)).2 := by
  unfold span_givingWay_ratio_Min B_span_givingWay_ratio_Min span_isOpen B_span_isOpen ratio_Min S.give
  simp only [open_eq h, open_eq h2]
  cases Q.isq a b <;> cases Q.isq c d <;> rfl
theorem give_max {a b c d : Int} (h : Q.valid (a, b) = true) (h2 : Q.valid (c, d) = true) (k : Int → Int → Option DV) : span_givingWay_ratio_Max a b c d k = k (S.give Q.max (a, b) (c, d)).1 (S.give Q.max (a, b) (c, d)).2 := by
  unfold span_givingWay_ratio_Max B_span_givingWay_ratio_Max span_isOpen B_span_isOpen ratio_Max S.give
  simp only [open_eq h, open_eq h2]
  cases Q.isq a b <;> cases Q.isq c d <;> rfl
end Go.Proofs.YtpdklolfkigefaaGreatDoor
