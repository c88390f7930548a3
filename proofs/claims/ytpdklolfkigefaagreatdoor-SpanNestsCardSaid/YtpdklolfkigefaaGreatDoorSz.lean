/-
  Valid numbers compare as equal exactly if their fields are equal; what is known is known as itself.
-/
import Derived.Test.YtpdklolfkigefaaGreatDoorSy
set_option linter.all false
namespace Go.Proofs.YtpdklolfkigefaaGreatDoor
open Go.Pv Go.RowKit

theorem known_known (s : Sp) : S.known (S.known s) = S.known s := by
  cases h : S.valid s
  · have : S.known s = S.all := by unfold S.known; rw [h]; rfl
    rw [this]; rfl
  · have : S.known s = s := by unfold S.known; rw [h]; rfl
    rw [this, this]
theorem cross {a b c d : Int} (h : Q.isq a b = true) (h2 : Q.isq c d = true) (e : a * d = c * b) : a = c ∧ b = d := by
  unfold Q.isq at h h2
  obtain ⟨-, -, hb, -, hg⟩ := of_decide_eq_true h
  obtain ⟨-, -, hd, -, hg2⟩ := of_decide_eq_true h2
  have en : a.natAbs * d.natAbs = c.natAbs * b.natAbs := by rw [← Int.natAbs_mul, ← Int.natAbs_mul, e]
  have h3 : b.natAbs ∣ d.natAbs := Nat.Coprime.dvd_of_dvd_mul_left (Nat.Coprime.symm hg) (by rw [en]; exact Nat.dvd_mul_left _ _)
  have h4 : d.natAbs ∣ b.natAbs := Nat.Coprime.dvd_of_dvd_mul_left (Nat.Coprime.symm hg2) (by rw [← en]; exact Nat.dvd_mul_left _ _)
  have h5 := Nat.dvd_antisymm h3 h4
  have h6 : b = d := by omega
  subst h6
  exact ⟨Int.eq_of_mul_eq_mul_right (by omega) e, rfl⟩
theorem cmp_is0 {a b c d : Int} (h : Q.valid (a, b) = true) (h2 : Q.valid (c, d) = true) : (Q.cmp (a, b) (c, d) == 0) = ((a == c) && ((b == d) && true)) := by
  cases h3 : Q.isq a b <;> cases h4 : Q.isq c d
  · have e1 : a = 0 ∧ b = 0 := by simpa [Q.valid, h3] using h
    have e2 : c = 0 ∧ d = 0 := by simpa [Q.valid, h4] using h2
    obtain ⟨rfl, rfl⟩ := e1
    obtain ⟨rfl, rfl⟩ := e2
    decide
  · have e1 : a = 0 ∧ b = 0 := by simpa [Q.valid, h3] using h
    have := isq_pos h4
    have hd : d ≠ 0 := by simpa using this
    obtain ⟨rfl, rfl⟩ := e1
    have hx : (0 == d) = false := by simp; omega
    rw [hx]
    simp [Q.cmp, Q.both, Q.rank, Q.cmpi, h3, h4]
  · have e1 : c = 0 ∧ d = 0 := by simpa [Q.valid, h4] using h2
    have := isq_pos h3
    obtain ⟨rfl, rfl⟩ := e1
    rw [this]
    simp [Q.cmp, Q.both, Q.rank, Q.cmpi, h3, h4]
  · have hb : Q.both (a, b) (c, d) = true := by simp [Q.both, h3, h4]
    unfold Q.cmp Q.cmpi
    rw [if_pos hb]
    by_cases e : a * d = c * b
    · obtain ⟨rfl, rfl⟩ := cross h3 h4 e
      simp
    · have hn : ((a == c) && ((b == d) && true)) = false := by
        cases hz : (a == c) && ((b == d) && true)
        · rfl
        · simp at hz; exact absurd (by rw [hz.1, hz.2]) e
      rw [hn]
      rcases Int.lt_or_gt_of_ne e with h | h
      · simp [h]
      · have : ¬ a * d < c * b := by omega
        simp [h, this]
end Go.Proofs.YtpdklolfkigefaaGreatDoor
