/-
  Spans as plain values: the lowest common and the greatest common Den: the program's and the specification's readings are the same plain functions.
-/
import Derived.Test.YtpdklolfkigefaaGreatDoorSu
set_option linter.all false
namespace Go.Proofs.YtpdklolfkigefaaGreatDoor
open Go.Pv Go.RowKit

namespace S
def common (a b : Int) : Int :=
  if a = 0 ∨ b = 0 then 0 else if a.natAbs / a.natAbs.gcd b.natAbs * b.natAbs > 1073741824 then 0 else ((a.natAbs / a.natAbs.gcd b.natAbs * b.natAbs : Nat) : Int)
end S
theorem mk_den {A B : Nat} (hA : A ≤ 1073741824) (hB : B ≤ 1073741824) (h : B ≠ 0) : (Q.mk (A : Int) (B : Int)).2 = ((B / A.gcd B : Nat) : Int) := by
  unfold Q.mk Q.low
  have h1 : A / A.gcd B ≤ A := Nat.div_le_self _ _
  have h2 : B / A.gcd B ≤ B := Nat.div_le_self _ _
  simp only [Int.natAbs_natCast]
  rw [if_neg h, if_neg (by omega)]
theorem mk_den0 (a : Int) : (Q.mk a 0).2 = 0 := by
  unfold Q.mk Q.low
  simp
theorem mk_div {A B : Nat} (hA : A ≤ 1073741824) (hB : B ≤ 1073741824) (h : B ≠ 0) : B / A.gcd B ≠ 0 := by
  have := Nat.div_pos (Nat.gcd_le_right A (Nat.pos_of_ne_zero h)) (Nat.gcd_pos_of_pos_right A (Nat.pos_of_ne_zero h))
  omega
theorem nat_of {a : Int} (h : 0 ≤ a) : ∃ A : Nat, a = (A : Int) := ⟨a.toNat, by omega⟩
theorem turn_div (A B : Nat) : A * (B / A.gcd B) = A / A.gcd B * B := by
  rw [← Nat.mul_div_assoc _ (Nat.gcd_dvd_right A B), Nat.mul_comm, Nat.mul_div_assoc _ (Nat.gcd_dvd_left A B), Nat.mul_comm]
theorem common_eq {a b : Int} (h0 : 0 ≤ a) (h1 : a ≤ 1073741824) (h2 : 0 ≤ b) (h3 : b ≤ 1073741824) (k : Int → Option DV) : span_lowestCommon a b k = k (S.common a b) := by
  obtain ⟨A, rfl⟩ := nat_of h0
  obtain ⟨B, rfl⟩ := nat_of h2
  unfold span_lowestCommon B_span_lowestCommon S.common ratio_Make span_bounded B_span_bounded
  simp only [isden_eq]
  have hd : decide ((-9223372036854775808 ≤ (A : Int) ∧ (A : Int) ≤ 9223372036854775807) ∧ (-9223372036854775808 ≤ (B : Int) ∧ (B : Int) ≤ 9223372036854775807)) = true := decide_eq_true (by omega)
  simp only [hd, cond_true]
  by_cases hb : B = 0
  · subst hb
    have e : IntKind.wrap .i64 ((A : Int) * (Q.mk (A : Int) ((0 : Nat) : Int)).2) = 0 := by
      rw [show ((0 : Nat) : Int) = 0 from rfl, mk_den0, Int.mul_zero]; exact IntWalk.i64_in _ (by omega)
    rw [e]
    simp [S.isden]
  rw [mk_den (by omega) (by omega) hb, ← Int.natCast_mul, turn_div]
  have hq : A / A.gcd B ≤ A := Nat.div_le_self _ _
  have hq' : A / A.gcd B ≤ 1073741824 := by omega
  have hm : A / A.gcd B * B ≤ 1073741824 * 1073741824 := Nat.mul_le_mul hq' (by omega)
  rw [IntWalk.i64_in _ (by omega)]
  simp only [Int.natAbs_natCast]
  by_cases ha : A = 0
  · subst ha; simp [S.isden]
  have hn : ¬ ((A : Int) = 0 ∨ (B : Int) = 0) := by omega
  rw [if_neg hn]
  unfold S.isden
  by_cases hx : A / A.gcd B * B > 1073741824
  · have hx' : ¬ ((A / A.gcd B * B : Nat) : Int) ≤ 1073741824 := by omega
    rw [if_pos hx, decide_eq_false hx', Bool.and_false]; rfl
  · have hx' : ((A / A.gcd B * B : Nat) : Int) ≤ 1073741824 := by omega
    have hy' : ((A / A.gcd B * B : Nat) : Int) ≥ 0 := by omega
    rw [if_neg hx, decide_eq_true hx', decide_eq_true hy']; rfl
end Go.Proofs.YtpdklolfkigefaaGreatDoor
