import Derived.Test.YtiiddikiaafanaaGreatDoorSj
set_option linter.all false
/-
  What SpanNests says, of plain spans: Join has what either has, Meet what both have; a chain of Widen changes few times.
-/
namespace Go.Proofs.YtiiddikiaafanaaGreatDoor
open Go.Pv Go.RowKit

theorem le_trans3 {a b c d e f : Int} (hb : 0 < b) (hd : 0 < d) (hf : 0 < f) (h1 : a * d ≤ c * b) (h2 : c * f ≤ e * d) : a * f ≤ e * b := by
  apply Int.le_of_mul_le_mul_right _ hd
  have h3 := Int.mul_le_mul_of_nonneg_right h1 (Int.le_of_lt hf)
  have h4 := Int.mul_le_mul_of_nonneg_right h2 (Int.le_of_lt hb)
  have e1 : a * d * f = a * f * d := Int.mul_right_comm _ _ _
  have e2 : c * b * f = c * f * b := Int.mul_right_comm _ _ _
  have e3 : e * d * b = e * b * d := Int.mul_right_comm _ _ _
  omega
theorem isq_den {a b : Int} (h : Q.isq a b = true) : 0 < b := by
  have := (Q.isq_iff _ _).1 h
  omega
theorem cmp_sides {a b c d : Int} (h : Q.isq a b = true) (h2 : Q.isq c d = true) : (Q.cmp (a, b) (c, d) < 0 ↔ a * d < c * b) ∧ (Q.cmp (a, b) (c, d) > 0 ↔ c * b < a * d) := by
  unfold Q.cmp Q.both Q.cmpi
  simp only [h, h2, Bool.and_self, if_true]
  generalize a * d = x
  generalize c * b = y
  by_cases h1 : x < y
  · rw [if_pos h1]; omega
  · rw [if_neg h1]; split <;> omega
namespace S
theorem below_iff {a b c d : Int} (h : Q.isq a b = true) : below a b c d = false ↔ (Q.isq c d = true → c * b ≤ a * d) := by
  unfold below
  cases h2 : Q.isq c d
  · simp
  · have := (cmp_sides h h2).1
    simp only [Bool.true_and, decide_eq_false_iff_not, forall_const, this]
    omega
theorem above_iff {a b c d : Int} (h : Q.isq a b = true) : above a b c d = false ↔ (Q.isq c d = true → a * d ≤ c * b) := by
  unfold above
  cases h2 : Q.isq c d
  · simp
  · have := (cmp_sides h h2).2
    simp only [Bool.true_and, decide_eq_false_iff_not, forall_const, this]
    omega
theorem ooo_iff {a b c d : Int} : ooo a b c d = false ↔ (Q.isq a b = true → Q.isq c d = true → a * d ≤ c * b) := by
  unfold ooo
  cases h2 : Q.isq c d
  · simp
  · cases h : Q.isq a b
    · have := cmp_none h h2
      simp [this]
    · have := (cmp_sides h h2).2
      simp only [Bool.true_and, decide_eq_false_iff_not, forall_const, this]
      omega
theorem divs_iff {n d : Int} : divs n d = true ↔ d ∣ n := by
  unfold divs
  rw [Bool.or_eq_true, beq_iff_eq, beq_iff_eq, Int.dvd_iff_tmod_eq_zero]
  constructor
  · rintro (h | h)
    · subst h; exact Int.zero_tmod _
    · exact h
  · exact Or.inr
theorem has_iff {s : Sp} {a b : Int} (h : Q.isq a b = true) : has s a b = true ↔ s.em = false ∧ (Q.isq s.ln s.ld = true → s.ln * b ≤ a * s.ld) ∧ (Q.isq s.hn s.hd = true → a * s.hd ≤ s.hn * b) ∧ b ∣ s.den := by
  unfold has
  rw [if_pos h]
  simp only [Bool.and_eq_true, Bool.not_eq_true', below_iff h, above_iff h, divs_iff, and_assoc]
theorem has_none {s : Sp} {a b : Int} (h : Q.isq a b = false) : has s a b = s.no := by
  unfold has
  rw [h]; rfl
theorem min_num {p q : Int × Int} (h : Q.isq (Q.min p q).1 (Q.min p q).2 = true) : Q.isq p.1 p.2 = true ∧ Q.isq q.1 q.2 = true ∧ (Q.min p q).1 * p.2 ≤ p.1 * (Q.min p q).2 ∧ (Q.min p q).1 * q.2 ≤ q.1 * (Q.min p q).2 ∧ ((Q.min p q) = p ∨ (Q.min p q) = q) := by
  unfold Q.min at *
  cases hb : Q.both p q
  · rw [hb] at h; simp [Q.isq_none] at h
  · rw [hb] at h
    simp only [if_true] at h ⊢
    obtain ⟨h1, h2⟩ := (Q.both_iff _ _).1 hb
    have c := (cmp_sides (a := q.1) (b := q.2) (c := p.1) (d := p.2) h2 h1).1
    split
    · rename_i hc
      have := c.1 hc
      exact ⟨h1, h2, by omega, by omega, Or.inr rfl⟩
    · rename_i hc
      have : ¬ q.1 * p.2 < p.1 * q.2 := fun h => hc (c.2 h)
      exact ⟨h1, h2, by omega, by omega, Or.inl rfl⟩
theorem max_num {p q : Int × Int} (h : Q.isq (Q.max p q).1 (Q.max p q).2 = true) : Q.isq p.1 p.2 = true ∧ Q.isq q.1 q.2 = true ∧ p.1 * (Q.max p q).2 ≤ (Q.max p q).1 * p.2 ∧ q.1 * (Q.max p q).2 ≤ (Q.max p q).1 * q.2 ∧ ((Q.max p q) = p ∨ (Q.max p q) = q) := by
  unfold Q.max at *
  cases hb : Q.both p q
  · rw [hb] at h; simp [Q.isq_none] at h
  · rw [hb] at h
    simp only [if_true] at h ⊢
    obtain ⟨h1, h2⟩ := (Q.both_iff _ _).1 hb
    have c := (cmp_sides (a := q.1) (b := q.2) (c := p.1) (d := p.2) h2 h1).2
    split
    · rename_i hc
      have := c.1 hc
      exact ⟨h1, h2, by omega, by omega, Or.inr rfl⟩
    · rename_i hc
      have : ¬ p.1 * q.2 < q.1 * p.2 := fun h => hc (c.2 h)
      exact ⟨h1, h2, by omega, by omega, Or.inl rfl⟩
theorem common_bd (a b : Int) : 0 ≤ common a b ∧ common a b ≤ 1073741824 := by
  unfold common
  split
  · omega
  · split <;> omega
theorem common_dvd {a b x : Int} (h : x ∣ a) : x ∣ common a b := by
  unfold common
  split
  · exact Int.dvd_zero x
  · split
    · exact Int.dvd_zero x
    · rw [← turn_div]
      rw [Int.natCast_mul]
      exact Int.dvd_trans h (Int.dvd_trans (Int.dvd_natAbs_self) (Int.dvd_mul_right _ _))
theorem common_dvd' {a b x : Int} (h : x ∣ b) : x ∣ common a b := by
  unfold common
  split
  · exact Int.dvd_zero x
  · split
    · exact Int.dvd_zero x
    · rw [Int.natCast_mul]
      exact Int.dvd_trans h (Int.dvd_trans (Int.dvd_natAbs_self) (Int.dvd_mul_left _ _))
theorem join_has {s t : Sp} {a b : Int} (h : has s a b = true) : has (join s t) a b = true := by
  cases hq : Q.isq a b
  · rw [has_none hq] at h ⊢
    unfold join
    split
    · simp [h]
    · split <;> simp [h]
  · rw [has_iff hq] at h ⊢
    obtain ⟨h1, h2, h3, h4⟩ := h
    unfold join
    rw [if_neg (by simp [h1])]
    split
    · exact ⟨h1, h2, h3, h4⟩
    · refine ⟨rfl, fun g => ?_, fun g => ?_, common_dvd h4⟩
      · obtain ⟨a1, a2, a3, -, -⟩ := min_num g
        exact le_trans3 (isq_den g) (isq_den a1) (isq_den hq) a3 (h2 a1)
      · obtain ⟨a1, a2, a3, -, -⟩ := max_num g
        exact le_trans3 (isq_den hq) (isq_den a1) (isq_den g) (h3 a1) a3
theorem give_max_le {p q : Int × Int} {a b : Int} (hq : Q.isq a b = true) (h1 : Q.isq p.1 p.2 = true → p.1 * b ≤ a * p.2) (h2 : Q.isq q.1 q.2 = true → q.1 * b ≤ a * q.2) : Q.isq (give Q.max p q).1 (give Q.max p q).2 = true → (give Q.max p q).1 * b ≤ a * (give Q.max p q).2 := by
  unfold give
  split
  · split
    · intro g
      obtain ⟨a1, a2, -, -, e⟩ := max_num g
      rcases e with e | e <;> rw [e]
      · exact h1 a1
      · exact h2 a2
    · exact h1
  · exact h2
theorem give_min_ge {p q : Int × Int} {a b : Int} (hq : Q.isq a b = true) (h1 : Q.isq p.1 p.2 = true → a * p.2 ≤ p.1 * b) (h2 : Q.isq q.1 q.2 = true → a * q.2 ≤ q.1 * b) : Q.isq (give Q.min p q).1 (give Q.min p q).2 = true → a * (give Q.min p q).2 ≤ (give Q.min p q).1 * b := by
  unfold give
  split
  · split
    · intro g
      obtain ⟨a1, a2, -, -, e⟩ := min_num g
      rcases e with e | e <;> rw [e]
      · exact h1 a1
      · exact h2 a2
    · exact h1
  · exact h2
/-- The same fields? -/
def eqq (a b c d : Int) : Bool := (a == c) && ((b == d) && true)
def widen (s t : Sp) : Sp :=
  bif s.em then join s t
  else ⟨bif eqq (join s t).ln (join s t).ld s.ln s.ld then (join s t).ln else 0, bif eqq (join s t).ln (join s t).ld s.ln s.ld then (join s t).ld else 0, bif eqq (join s t).hn (join s t).hd s.hn s.hd then (join s t).hn else 0, bif eqq (join s t).hn (join s t).hd s.hn s.hd then (join s t).hd else 0, bif (join s t).den == s.den then (join s t).den else 0, (join s t).no, false⟩
/-- How much of it is open. -/
def opens (s : Sp) : Nat := (bif Q.isq s.ln s.ld then 0 else 1) + (bif Q.isq s.hn s.hd then 0 else 1) + (bif s.den == 0 then 1 else 0) + (bif s.no then 1 else 0)
end S
end Go.Proofs.YtiiddikiaafanaaGreatDoor

/-
  SpanNests: Meet's and Widen's readings; a chain of Widen.
-/
namespace Go.Proofs.YtiiddikiaafanaaGreatDoor
open Go.Pv Go.RowKit

namespace S
/-- The same fields, as the program compares. -/
def same (s t : Sp) : Bool := ((s.ln == t.ln) && ((s.ld == t.ld) && true)) && (((s.hn == t.hn) && ((s.hd == t.hd) && true)) && ((s.den == t.den) && ((s.no == t.no) && ((s.em == t.em) && true))))
/-- A round of the chain. -/
def round (s : Sp) (m : Nat) (x : Sp) : Sp × Nat := (widen (known s) (known x), bif s.em then m else bif same (widen (known s) (known x)) s then m else m + 1)
/-- What the chain keeps. -/
structure Few (s : Sp) (m : Nat) : Prop where
  v : valid s = true
  z : s.em = true → m = 0
  f : s.em = false → m ≤ opens s
def chain (s : Sp) (m : Nat) : List Sp → Sp × Nat
  | [] => (s, m)
  | x :: l => chain (round s m x).1 (round s m x).2 l
end S
end Go.Proofs.YtiiddikiaafanaaGreatDoor
