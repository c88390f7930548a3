/-
  What SpanNests says, of plain spans: Join has what either has, Meet what both have; a chain of Widen changes few times.
-/
import Derived.Test.YtpdklolfkigefaaGreatDoorSi
set_option linter.all false
namespace Go.Proofs.YtpdklolfkigefaaGreatDoor
open Go.Pv Go.RowKit

theorem le_trans3 {a b c d e f : Int} (hb : 0 < b) (hd : 0 < d) (hf : 0 < f) (h1 : a * d ≤ c * b) (h2 : c * f ≤ e * d) : a * f ≤ e * b := by
  apply Int.le_of_mul_le_mul_right _ hd
  have h3 := Int.mul_le_mul_of_nonneg_right h1 (Int.le_of_lt hf)
  have h4 := Int.mul_le_mul_of_nonneg_right h2 (Int.le_of_lt hb)
  have e1 : a * d * f = a * f * d := Int.mul_right_comm _ _ _
  have e2 : c * b * f = c * f * b := Int.mul_right_comm _ _ _
  have e3 : e * d * b = e * b * d := Int.mul_right_comm _ _ _
  omega
theorem isq_den {a b : Int} (h : Q.isq a b = true) : 0 < b := by
  have := (Q.isq_iff _ _).1 h
  omega
theorem cmp_sides {a b c d : Int} (h : Q.isq a b = true) (h2 : Q.isq c d = true) : (Q.cmp (a, b) (c, d) < 0 ↔ a * d < c * b) ∧ (Q.cmp (a, b) (c, d) > 0 ↔ c * b < a * d) := by
  unfold Q.cmp Q.both Q.cmpi
  simp only [h, h2, Bool.and_self, if_true]
  generalize a * d = x
  generalize c * b = y
  by_cases h1 : x < y
  · rw [if_pos h1]; omega
  · rw [if_neg h1]; split <;> omega
namespace S
theorem below_iff {a b c d : Int} (h : Q.isq a b = true) : below a b c d = false ↔ (Q.isq c d = true → c * b ≤ a * d) := by
  unfold below
  cases h2 : Q.isq c d
  · simp
  · have := (cmp_sides h h2).1
    simp only [Bool.true_and, decide_eq_false_iff_not, forall_const, this]
    omega
theorem above_iff {a b c d : Int} (h : Q.isq a b = true) : above a b c d = false ↔ (Q.isq c d = true → a * d ≤ c * b) := by
  unfold above
  cases h2 : Q.isq c d
  · simp
  · have := (cmp_sides h h2).2
    simp only [Bool.true_and, decide_eq_false_iff_not, forall_const, this]
    omega
theorem ooo_iff {a b c d : Int} : ooo a b c d = false ↔ (Q.isq a b = true → Q.isq c d = true → a * d ≤ c * b) := by
  unfold ooo
  cases h2 : Q.isq c d
  · simp
  · cases h : Q.isq a b
    · have := cmp_none h h2
      simp [this]
    · have := (cmp_sides h h2).2
      simp only [Bool.true_and, decide_eq_false_iff_not, forall_const, this]
      omega
theorem divs_iff {n d : Int} : divs n d = true ↔ d ∣ n := by
  unfold divs
  rw [Bool.or_eq_true, beq_iff_eq, beq_iff_eq, Int.dvd_iff_tmod_eq_zero]
  constructor
  · rintro (h | h)
    · subst h; exact Int.zero_tmod _
    · exact h
  · exact Or.inr
theorem has_iff {s : Sp} {a b : Int} (h : Q.isq a b = true) : has s a b = true ↔ s.em = false ∧ (Q.isq s.ln s.ld = true → s.ln * b ≤ a * s.ld) ∧ (Q.isq s.hn s.hd = true → a * s.hd ≤ s.hn * b) ∧ b ∣ s.den := by
  unfold has
  rw [if_pos h]
  simp only [Bool.and_eq_true, Bool.not_eq_true', below_iff h, above_iff h, divs_iff, and_assoc]
theorem has_none {s : Sp} {a b : Int} (h : Q.isq a b = false) : has s a b = s.no := by
  unfold has
  rw [h]; rfl
theorem known_valid (s : Sp) : valid (known s) = true := by
  unfold known
  cases h : valid s
  · rw [if_neg (by decide)]; decide
  · rw [if_pos rfl, h]
theorem of_valid {s : Sp} (h : valid s = true) : known s = s := by
  unfold known; rw [if_pos h]
theorem valid_ok {s : Sp} (h : valid s = true) : Ok s := by
  have := known_ok s
  rwa [of_valid h] at this
theorem valid_of_ok {s : Sp} (h : Ok s) (he : s.em = false) : valid s = true := by
  unfold valid
  rw [if_neg (by simp [he]), h.lo, h.hi, h.ord]
  unfold isden
  rw [decide_eq_true h.d0, decide_eq_true h.d1]; rfl
theorem valid_no {s : Sp} (h : valid s = true) (o : Bool) : valid ⟨s.ln, s.ld, s.hn, s.hd, s.den, o, s.em⟩ = true := h
theorem min_num {p q : Int × Int} (h : Q.isq (Q.min p q).1 (Q.min p q).2 = true) : Q.isq p.1 p.2 = true ∧ Q.isq q.1 q.2 = true ∧ (Q.min p q).1 * p.2 ≤ p.1 * (Q.min p q).2 ∧ (Q.min p q).1 * q.2 ≤ q.1 * (Q.min p q).2 ∧ ((Q.min p q) = p ∨ (Q.min p q) = q) := by
  unfold Q.min at *
  cases hb : Q.both p q
  · rw [hb] at h; simp [Q.isq_none] at h
  · rw [hb] at h
    simp only [if_true] at h ⊢
    obtain ⟨h1, h2⟩ := (Q.both_iff _ _).1 hb
    have c := (cmp_sides (a := q.1) (b := q.2) (c := p.1) (d := p.2) h2 h1).1
    split
    · rename_i hc
      have := c.1 hc
      exact ⟨h1, h2, by omega, by omega, Or.inr rfl⟩
    · rename_i hc
      have : ¬ q.1 * p.2 < p.1 * q.2 := fun h => hc (c.2 h)
      exact ⟨h1, h2, by omega, by omega, Or.inl rfl⟩
theorem max_num {p q : Int × Int} (h : Q.isq (Q.max p q).1 (Q.max p q).2 = true) : Q.isq p.1 p.2 = true ∧ Q.isq q.1 q.2 = true ∧ p.1 * (Q.max p q).2 ≤ (Q.max p q).1 * p.2 ∧ q.1 * (Q.max p q).2 ≤ (Q.max p q).1 * q.2 ∧ ((Q.max p q) = p ∨ (Q.max p q) = q) := by
  unfold Q.max at *
  cases hb : Q.both p q
  · rw [hb] at h; simp [Q.isq_none] at h
  · rw [hb] at h
    simp only [if_true] at h ⊢
    obtain ⟨h1, h2⟩ := (Q.both_iff _ _).1 hb
    have c := (cmp_sides (a := q.1) (b := q.2) (c := p.1) (d := p.2) h2 h1).2
    split
    · rename_i hc
      have := c.1 hc
      exact ⟨h1, h2, by omega, by omega, Or.inr rfl⟩
    · rename_i hc
      have : ¬ p.1 * q.2 < q.1 * p.2 := fun h => hc (c.2 h)
      exact ⟨h1, h2, by omega, by omega, Or.inl rfl⟩
theorem common_bd (a b : Int) : 0 ≤ common a b ∧ common a b ≤ 1073741824 := by
  unfold common
  split
  · omega
  · split <;> omega
theorem common_dvd {a b x : Int} (h : x ∣ a) : x ∣ common a b := by
  unfold common
  split
  · exact Int.dvd_zero x
  · split
    · exact Int.dvd_zero x
    · rw [← turn_div]
      rw [Int.natCast_mul]
      exact Int.dvd_trans h (Int.dvd_trans (Int.dvd_natAbs_self) (Int.dvd_mul_right _ _))
theorem common_dvd' {a b x : Int} (h : x ∣ b) : x ∣ common a b := by
  unfold common
  split
  · exact Int.dvd_zero x
  · split
    · exact Int.dvd_zero x
    · rw [Int.natCast_mul]
      exact Int.dvd_trans h (Int.dvd_trans (Int.dvd_natAbs_self) (Int.dvd_mul_left _ _))
theorem join_valid {s t : Sp} (hs : valid s = true) (ht : valid t = true) : valid (join s t) = true := by
  unfold join
  split
  · exact valid_no ht _
  · split
    · exact valid_no hs _
    · rename_i h1 h2
      have os := valid_ok hs
      have ot := valid_ok ht
      refine valid_of_ok ⟨valid_min os.lo ot.lo, valid_max os.hi ot.hi, ?_, (common_bd _ _).1, (common_bd _ _).2⟩ rfl
      rw [ooo_iff]
      intro g1 g2
      obtain ⟨a1, a2, a3, -, -⟩ := min_num g1
      obtain ⟨b1, b2, b3, -, -⟩ := max_num g2
      have o := ooo_iff.1 os.ord a1 b1
      exact le_trans3 (isq_den g1) (isq_den b1) (isq_den g2) (le_trans3 (isq_den g1) (isq_den a1) (isq_den b1) a3 o) b3
theorem join_has {s t : Sp} {a b : Int} (h : has s a b = true) : has (join s t) a b = true := by
  cases hq : Q.isq a b
  · rw [has_none hq] at h ⊢
    unfold join
    split
    · simp [h]
    · split <;> simp [h]
  · rw [has_iff hq] at h ⊢
    obtain ⟨h1, h2, h3, h4⟩ := h
    unfold join
    rw [if_neg (by simp [h1])]
    split
    · exact ⟨h1, h2, h3, h4⟩
    · refine ⟨rfl, fun g => ?_, fun g => ?_, common_dvd h4⟩
      · obtain ⟨a1, a2, a3, -, -⟩ := min_num g
        exact le_trans3 (isq_den g) (isq_den a1) (isq_den hq) a3 (h2 a1)
      · obtain ⟨a1, a2, a3, -, -⟩ := max_num g
        exact le_trans3 (isq_den hq) (isq_den a1) (isq_den g) (h3 a1) a3
def meet (s t : Sp) : Sp :=
  if (s.em || t.em) = true then ⟨0, 0, 0, 0, 0, s.no && t.no, true⟩
  else if ooo (give Q.max (s.ln, s.ld) (t.ln, t.ld)).1 (give Q.max (s.ln, s.ld) (t.ln, t.ld)).2 (give Q.min (s.hn, s.hd) (t.hn, t.hd)).1 (give Q.min (s.hn, s.hd) (t.hn, t.hd)).2 = true then ⟨0, 0, 0, 0, 0, s.no && t.no, true⟩
  else ⟨(give Q.max (s.ln, s.ld) (t.ln, t.ld)).1, (give Q.max (s.ln, s.ld) (t.ln, t.ld)).2, (give Q.min (s.hn, s.hd) (t.hn, t.hd)).1, (give Q.min (s.hn, s.hd) (t.hn, t.hd)).2, ((s.den.natAbs.gcd t.den.natAbs : Nat) : Int), s.no && t.no, false⟩
theorem give_max_le {p q : Int × Int} {a b : Int} (hq : Q.isq a b = true) (h1 : Q.isq p.1 p.2 = true → p.1 * b ≤ a * p.2) (h2 : Q.isq q.1 q.2 = true → q.1 * b ≤ a * q.2) : Q.isq (give Q.max p q).1 (give Q.max p q).2 = true → (give Q.max p q).1 * b ≤ a * (give Q.max p q).2 := by
  unfold give
  split
  · split
    · intro g
      obtain ⟨a1, a2, -, -, e⟩ := max_num g
      rcases e with e | e <;> rw [e]
      · exact h1 a1
      · exact h2 a2
    · exact h1
  · exact h2
theorem give_min_ge {p q : Int × Int} {a b : Int} (hq : Q.isq a b = true) (h1 : Q.isq p.1 p.2 = true → a * p.2 ≤ p.1 * b) (h2 : Q.isq q.1 q.2 = true → a * q.2 ≤ q.1 * b) : Q.isq (give Q.min p q).1 (give Q.min p q).2 = true → a * (give Q.min p q).2 ≤ (give Q.min p q).1 * b := by
  unfold give
  split
  · split
    · intro g
      obtain ⟨a1, a2, -, -, e⟩ := min_num g
      rcases e with e | e <;> rw [e]
      · exact h1 a1
      · exact h2 a2
    · exact h1
  · exact h2
theorem meet_valid {s t : Sp} (hs : valid s = true) (ht : valid t = true) : valid (meet s t) = true := by
  unfold meet
  split
  · rfl
  · split
    · rfl
    · rename_i h1 h2
      have os := valid_ok hs
      have ot := valid_ok ht
      have hd := isden_gcd os.d0 os.d1 ot.d0 ot.d1
      unfold isden at hd
      simp only [Bool.and_eq_true, decide_eq_true_eq] at hd
      exact valid_of_ok ⟨valid_give (valid_max os.lo ot.lo) os.lo ot.lo, valid_give (valid_min os.hi ot.hi) os.hi ot.hi, by simpa using h2, hd.1, hd.2⟩ rfl
theorem meet_has {s t : Sp} {a b : Int} (h : has s a b = true) (h' : has t a b = true) : has (meet s t) a b = true := by
  cases hq : Q.isq a b
  · rw [has_none hq] at h h' ⊢
    unfold meet
    split
    · simp [h, h']
    · split <;> simp [h, h']
  · rw [has_iff hq] at h h' ⊢
    obtain ⟨h1, h2, h3, h4⟩ := h
    obtain ⟨g1, g2, g3, g4⟩ := h'
    have lo := give_max_le (p := (s.ln, s.ld)) (q := (t.ln, t.ld)) hq h2 g2
    have hi := give_min_ge (p := (s.hn, s.hd)) (q := (t.hn, t.hd)) hq h3 g3
    have oo : ooo (give Q.max (s.ln, s.ld) (t.ln, t.ld)).1 (give Q.max (s.ln, s.ld) (t.ln, t.ld)).2 (give Q.min (s.hn, s.hd) (t.hn, t.hd)).1 (give Q.min (s.hn, s.hd) (t.hn, t.hd)).2 = false :=
      ooo_iff.2 fun x1 x2 => le_trans3 (isq_den x1) (isq_den hq) (isq_den x2) (lo x1) (hi x2)
    unfold meet
    rw [if_neg (by simp [h1, g1]), if_neg (by simp [oo])]
    refine ⟨rfl, lo, hi, ?_⟩
    exact Int.natCast_dvd_natCast.2 (Nat.dvd_gcd (Int.natAbs_dvd_natAbs.2 h4) (Int.natAbs_dvd_natAbs.2 g4)) |> fun x => Int.dvd_trans Int.dvd_natAbs_self x
/-- The same fields? -/
def eqq (a b c d : Int) : Bool := (a == c) && ((b == d) && true)
def widen (s t : Sp) : Sp :=
  bif s.em then join s t
  else ⟨bif eqq (join s t).ln (join s t).ld s.ln s.ld then (join s t).ln else 0, bif eqq (join s t).ln (join s t).ld s.ln s.ld then (join s t).ld else 0, bif eqq (join s t).hn (join s t).hd s.hn s.hd then (join s t).hn else 0, bif eqq (join s t).hn (join s t).hd s.hn s.hd then (join s t).hd else 0, bif (join s t).den == s.den then (join s t).den else 0, (join s t).no, false⟩
/-- How much of it is open. -/
def opens (s : Sp) : Nat := (bif Q.isq s.ln s.ld then 0 else 1) + (bif Q.isq s.hn s.hd then 0 else 1) + (bif s.den == 0 then 1 else 0) + (bif s.no then 1 else 0)
theorem opens_le (s : Sp) : opens s ≤ 4 := by
  unfold opens
  cases Q.isq s.ln s.ld <;> cases Q.isq s.hn s.hd <;> cases s.den == 0 <;> cases s.no <;> decide
theorem eqq_true {a b c d : Int} (h : eqq a b c d = true) : a = c ∧ b = d := by
  unfold eqq at h
  simpa using h
theorem eqq_false {a b c d : Int} (h : eqq a b c d = false) : ¬ (a = c ∧ b = d) := by
  rintro ⟨rfl, rfl⟩
  unfold eqq at h
  simp at h
theorem not_q {a b : Int} (h : Q.valid (a, b) = true) (h2 : Q.isq a b = false) : a = 0 ∧ b = 0 := by simpa [Q.valid, h2] using h
theorem widen_valid {s t : Sp} (hs : valid s = true) (ht : valid t = true) : valid (widen s t) = true := by
  have hj := join_valid hs ht
  unfold widen
  cases he : s.em
  · have os := valid_ok hs
    have oj := valid_ok hj
    generalize join s t = j at *
    rw [cond_false]
    refine valid_of_ok ⟨?_, ?_, ?_, ?_, ?_⟩ rfl
    · cases eqq j.ln j.ld s.ln s.ld
      · rfl
      · exact oj.lo
    · cases eqq j.hn j.hd s.hn s.hd
      · rfl
      · exact oj.hi
    · cases eqq j.ln j.ld s.ln s.ld <;> cases eqq j.hn j.hd s.hn s.hd <;> simp only [cond_true, cond_false]
      · rfl
      · rw [ooo_iff]; intro h; simp [Q.isq_none] at h
      · rw [ooo_iff]; intro _ h; simp [Q.isq_none] at h
      · exact oj.ord
    · cases j.den == s.den
      · exact Int.le_refl 0
      · exact oj.d0
    · cases j.den == s.den
      · show (0 : Int) ≤ 1073741824; omega
      · exact oj.d1
  · exact hj
theorem widen_em {s t : Sp} (h : s.em = false) : (widen s t).em = false := by
  unfold widen
  rw [h]; rfl
/-- A step changes nothing, or opens something. -/
theorem widen_step {s t : Sp} (hs : valid s = true) (ht : valid t = true) (he : s.em = false) : widen s t = s ∨ opens s + 1 ≤ opens (widen s t) := by
  have os := valid_ok hs
  have jl : Q.isq s.ln s.ld = false → eqq (join s t).ln (join s t).ld s.ln s.ld = true := fun h => by
    obtain ⟨e1, e2⟩ := not_q os.lo h
    unfold join
    rw [if_neg (by simp [he])]
    split
    · simp [eqq]
    · have : Q.min (s.ln, s.ld) (t.ln, t.ld) = (0, 0) := by unfold Q.min Q.both; rw [h]; rfl
      rw [this, e1, e2]; rfl
  have jh : Q.isq s.hn s.hd = false → eqq (join s t).hn (join s t).hd s.hn s.hd = true := fun h => by
    obtain ⟨e1, e2⟩ := not_q os.hi h
    unfold join
    rw [if_neg (by simp [he])]
    split
    · simp [eqq]
    · have : Q.max (s.hn, s.hd) (t.hn, t.hd) = (0, 0) := by unfold Q.max Q.both; rw [h]; rfl
      rw [this, e1, e2]; rfl
  have jd : (s.den == 0) = true → ((join s t).den == s.den) = true := fun h => by
    have e : s.den = 0 := by simpa using h
    unfold join
    rw [if_neg (by simp [he])]
    split
    · simp
    · have : common s.den t.den = 0 := by unfold common; rw [if_pos (Or.inl e)]
      rw [this, e]; rfl
  have jn : s.no = true → (join s t).no = true := fun h => by
    unfold join
    rw [if_neg (by simp [he])]
    split <;> simp [h]
  unfold widen opens
  rw [he]
  simp only [cond_false]
  generalize join s t = j at *
  obtain ⟨a, b, c, d, n, o, e⟩ := s
  obtain ⟨a', b', c', d', n', o', e'⟩ := j
  simp only at *
  subst he
  have c1 : (bif Q.isq (bif eqq a' b' a b then a' else 0) (bif eqq a' b' a b then b' else 0) then 0 else 1 : Nat) = (bif Q.isq a b then 0 else 1) + (bif eqq a' b' a b then 0 else 1) := by
    cases h : eqq a' b' a b
    · cases hq : Q.isq a b
      · rw [jl hq] at h; cases h
      · rfl
    · obtain ⟨rfl, rfl⟩ := eqq_true h; rfl
  have c2 : (bif Q.isq (bif eqq c' d' c d then c' else 0) (bif eqq c' d' c d then d' else 0) then 0 else 1 : Nat) = (bif Q.isq c d then 0 else 1) + (bif eqq c' d' c d then 0 else 1) := by
    cases h : eqq c' d' c d
    · cases hq : Q.isq c d
      · rw [jh hq] at h; cases h
      · rfl
    · obtain ⟨rfl, rfl⟩ := eqq_true h; rfl
  have c3 : (bif (bif n' == n then n' else 0) == 0 then 1 else 0 : Nat) = (bif n == 0 then 1 else 0) + (bif n' == n then 0 else 1) := by
    cases h : n' == n
    · cases hq : n == 0
      · rfl
      · rw [jd hq] at h; cases h
    · have : n' = n := by simpa using h
      subst this; rfl
  have c4 : (bif o' then 1 else 0 : Nat) = (bif o then 1 else 0) + (bif o' == o then 0 else 1) := by
    cases o
    · cases o' <;> rfl
    · rw [jn rfl]; rfl
  rw [c1, c2, c3, c4]
  cases h1 : eqq a' b' a b
  · right; simp only [cond_false]; omega
  · cases h2 : eqq c' d' c d
    · right; simp only [cond_false]; omega
    · cases h3 : n' == n
      · right; simp only [cond_false]; omega
      · cases h4 : o' == o
        · right; simp only [cond_false]; omega
        · left
          obtain ⟨rfl, rfl⟩ := eqq_true h1
          obtain ⟨rfl, rfl⟩ := eqq_true h2
          have e3 : n' = n := by simpa using h3
          have e4 : o' = o := by simpa using h4
          subst e3; subst e4; rfl
end S
end Go.Proofs.YtpdklolfkigefaaGreatDoor
