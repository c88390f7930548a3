import Derived.Test.YtiiddikiaafanaaGreatDoorSj
set_option linter.all false
/-
  Spans as plain values: what operations of one in make of a span: the program's and the specification's readings are the same plain functions.
-/
namespace Go.Proofs.YtiiddikiaafanaaGreatDoor
open Go.Pv Go.RowKit

theorem isq_bd {a b : Int} (h : Q.isq a b = true) : -1073741824 ≤ a ∧ a ≤ 1073741824 ∧ 1 ≤ b ∧ b ≤ 1073741824 := by
  have := (Q.isq_iff _ _).1 h; omega
/-- Out of order: by products. -/
theorem ooo_iff (a b c d : Int) : S.ooo a b c d = true ↔ Q.isq a b = true ∧ Q.isq c d = true ∧ c * b < a * d := by
  unfold S.ooo Q.cmp Q.both Q.rank Q.cmpi
  cases h1 : Q.isq a b <;> cases h2 : Q.isq c d <;> simp
  split
  · simp; omega
  · split <;> simp <;> omega
theorem ooo_no {a b c d : Int} (h : Q.isq a b = true → Q.isq c d = true → a * d ≤ c * b) : S.ooo a b c d = false := by
  cases h0 : S.ooo a b c d
  · rfl
  · obtain ⟨h1, h2, h3⟩ := (ooo_iff a b c d).1 h0
    have := h h1 h2; omega
theorem S.Ok.le {s : Sp} (h : S.Ok s) (h1 : Q.isq s.ln s.ld = true) (h2 : Q.isq s.hn s.hd = true) : s.ln * s.hd ≤ s.hn * s.ld := by
  apply Classical.byContradiction
  intro hc
  have := (ooo_iff s.ln s.ld s.hn s.hd).2 ⟨h1, h2, by omega⟩
  rw [h.ord] at this; cases this
theorem valid_none {a b : Int} (h : Q.valid (a, b) = true) (hq : Q.isq a b = false) : a = 0 ∧ b = 0 := by
  simpa [Q.valid, hq] using h
theorem valid_isq {a b : Int} (h : Q.isq a b = true) : Q.valid (a, b) = true := by simp [Q.valid, h]
theorem isden_ok {n : Int} (h0 : 0 ≤ n) (h1 : n ≤ 1073741824) : S.isden n = true := by
  unfold S.isden
  rw [decide_eq_true (by omega), decide_eq_true (by omega)]; rfl
/-- Right ends, in order, and a right Den are kept. -/
theorem make_ok {a b c d n : Int} (h1 : Q.valid (a, b) = true) (h2 : Q.valid (c, d) = true) (h3 : S.ooo a b c d = false) (h4 : S.isden n = true) : S.make a b c d n = ⟨a, b, c, d, n, false, false⟩ := by
  unfold S.make
  rw [if_neg (by rw [h3]; decide), clean_valid h1, clean_valid h2, if_pos h4]
theorem neg_valid {a b : Int} (h : Q.valid (a, b) = true) : Q.valid ((Q.neg (a, b)).1, (Q.neg (a, b)).2) = true := by
  unfold Q.neg
  cases hq : Q.isq a b
  · rfl
  · simp [Q.valid, Q.isq_neg, hq]
theorem isq00 : Q.isq 0 0 = false := by decide
theorem isq01 : Q.isq 0 1 = true := by decide
theorem isq11 : Q.isq 1 1 = true := by decide
theorem zero_eq (k : Int → Int → Option DV) : span_zero k = k 0 1 := by kernel_rfl
theorem one_eq (k : Int → Int → Option DV) : span_one k = k 1 1 := by kernel_rfl
theorem either_eq (k : Int → Int → Int → Int → Int → Bool → Bool → Option DV) : span_either k = k 0 1 1 1 1 false false := by kernel_rfl

namespace S
/-- A span with None told of it besides. -/
def orn (s : Sp) (o : Bool) : Sp := ⟨s.ln, s.ld, s.hn, s.hd, s.den, s.no || o, s.em⟩
def ispt (s : Sp) : Bool := Q.isq s.ln s.ld && ((s.ln == s.hn) && (s.ld == s.hd))
def iszero (s : Sp) : Bool := ispt s && (s.ln == 0)
def neg (s : Sp) : Sp := ⟨(Q.neg (s.hn, s.hd)).1, (Q.neg (s.hn, s.hd)).2, (Q.neg (s.ln, s.ld)).1, (Q.neg (s.ln, s.ld)).2, s.den, false, false⟩
end S
theorem neg_make {s : Sp} (h : S.Ok s) : S.make (Q.neg (s.hn, s.hd)).1 (Q.neg (s.hn, s.hd)).2 (Q.neg (s.ln, s.ld)).1 (Q.neg (s.ln, s.ld)).2 s.den = S.neg s := by
  refine make_ok (neg_valid h.hi) (neg_valid h.lo) (ooo_no fun h1 h2 => ?_) (isden_ok h.d0 h.d1)
  unfold Q.neg at h1 h2 ⊢
  cases hl : Q.isq s.ln s.ld
  · rw [hl] at h2; simp [isq00] at h2
  · cases hh : Q.isq s.hn s.hd
    · rw [hh] at h1; simp [isq00] at h1
    · have := h.le hl hh
      simp only [if_true]
      rw [Int.neg_mul, Int.neg_mul]; omega
theorem turned_eq {s : Sp} (h : S.Ok s) (k : Int → Int → Int → Int → Int → Bool → Bool → Option DV) : span_turned s.ln s.ld s.hn s.hd s.den s.no s.em k = (S.neg s).ap k := by
  unfold span_turned B_span_turned ratio_Neg
  simp only [make_eq, neg_make h]
theorem ispt_eq {s : Sp} (h : S.Ok s) (k : Bool → Option DV) : span_isPoint s.ln s.ld s.hn s.hd s.den s.no s.em k = k (S.ispt s) := by
  unfold span_isPoint B_span_isPoint S.ispt span_isOpen B_span_isOpen
  simp only [open_eq h.lo]
  cases Q.isq s.ln s.ld <;> simp
theorem iszero_eq {s : Sp} (h : S.Ok s) (k : Bool → Option DV) : span_isZero s.ln s.ld s.hn s.hd s.den s.no s.em k = k (S.iszero s) := by
  unfold span_isZero B_span_isZero S.iszero
  simp only [ispt_eq h]
  cases S.ispt s <;> simp
end Go.Proofs.YtiiddikiaafanaaGreatDoor

/-
  Spans as plain values: abs, floor, round, frac, not.
-/
namespace Go.Proofs.YtiiddikiaafanaaGreatDoor
open Go.Pv Go.RowKit

theorem cmp_num {a b c d : Int} (h : Q.isq a b = true) (h2 : Q.isq c d = true) : Q.cmp (a, b) (c, d) = Q.cmpi (a * d) (c * b) := by
  unfold Q.cmp; rw [if_pos (by simp [Q.both, h, h2])]
theorem cmpi_lt (x y : Int) : decide (Q.cmpi x y < 0) = decide (x < y) := by
  unfold Q.cmpi
  split
  · simp [*]
  · split <;> simp <;> omega
theorem cmpi_gt (x y : Int) : decide (Q.cmpi x y > 0) = decide (y < x) := by
  unfold Q.cmpi
  split
  · simp; omega
  · split <;> simp <;> omega
theorem cmpi_pos (x y : Int) : (0 < Q.cmpi x y) ↔ y < x := by
  unfold Q.cmpi
  split
  · omega
  · split <;> omega
theorem cmpi_neg (x y : Int) : (Q.cmpi x y < 0) ↔ x < y := by
  unfold Q.cmpi
  split
  · omega
  · split <;> omega
theorem cmpi_eq (x y : Int) : (Q.cmpi x y == 0) = (x == y) := by
  unfold Q.cmpi
  split
  · have : (x == y) = false := by simp; omega
    rw [this]; rfl
  · split
    · have : (x == y) = false := by simp; omega
      rw [this]; rfl
    · have : (x == y) = true := by simp; omega
      rw [this]; rfl
theorem abs_valid {a b : Int} (h : Q.valid (a, b) = true) : Q.valid ((Q.abs (a, b)).1, (Q.abs (a, b)).2) = true := by
  unfold Q.abs
  cases hq : Q.isq a b
  · rfl
  · simp only [if_true]
    split
    · simp [Q.valid, Q.isq_neg, hq]
    · exact h
theorem abs_num {a b : Int} (h : Q.isq a b = true) : Q.abs (a, b) = (if a < 0 then -a else a, b) := by
  unfold Q.abs; rw [if_pos h]; split <;> rfl
theorem abs_none {a b : Int} (h : Q.isq a b = false) : Q.abs (a, b) = (0, 0) := by
  unfold Q.abs; rw [if_neg (by simp [h])]
namespace S
/-- The least size of a span's numbers. -/
def least (s : Sp) : Int × Int := if (Q.isq s.ln s.ld && decide (0 < s.ln)) = true then (s.ln, s.ld) else if (Q.isq s.hn s.hd && decide (s.hn < 0)) = true then (-s.hn, s.hd) else (0, 1)
def abs (s : Sp) : Sp := ⟨(least s).1, (least s).2, (Q.max (Q.abs (s.ln, s.ld)) (Q.abs (s.hn, s.hd))).1, (Q.max (Q.abs (s.ln, s.ld)) (Q.abs (s.hn, s.hd))).2, s.den, false, false⟩
end S
theorem below_zero {c d : Int} : S.below 0 1 c d = (Q.isq c d && decide (0 < c)) := by
  unfold S.below
  cases h : Q.isq c d
  · rfl
  · rw [cmp_num isq01 h, cmpi_lt]; simp
theorem above_zero {c d : Int} : S.above 0 1 c d = (Q.isq c d && decide (c < 0)) := by
  unfold S.above
  cases h : Q.isq c d
  · rfl
  · rw [cmp_num isq01 h, cmpi_gt]; simp
theorem divs_one (n : Int) : S.divs n 1 = true := by unfold S.divs; simp
theorem has_zero {s : Sp} (he : s.em = false) : S.has s 0 1 = (!(Q.isq s.ln s.ld && decide (0 < s.ln)) && !(Q.isq s.hn s.hd && decide (s.hn < 0))) := by
  unfold S.has
  rw [if_pos isq01, below_zero, above_zero, divs_one, he]; simp
/-- The greater of two sizes, or none. -/
theorem max_abs_valid {s : Sp} (h : S.Ok s) : Q.valid ((Q.max (Q.abs (s.ln, s.ld)) (Q.abs (s.hn, s.hd))).1, (Q.max (Q.abs (s.ln, s.ld)) (Q.abs (s.hn, s.hd))).2) = true := by
  have h1 := abs_valid h.lo
  have h2 := abs_valid h.hi
  exact valid_max h1 h2
theorem isq_of_neg {a b : Int} (h : Q.isq a b = true) : Q.isq (-a) b = true := by rw [Q.isq_neg]; exact h
theorem least_valid {s : Sp} (h : S.Ok s) : Q.valid ((S.least s).1, (S.least s).2) = true := by
  unfold S.least
  split
  · exact h.lo
  · split
    · rename_i h2
      simp at h2
      exact valid_isq (isq_of_neg h2.1)
    · decide
theorem pos_cross {a b c d : Int} (hb : 0 < b) (hd : 0 < d) (h : a * d ≤ c * b) (ha : 0 < a) : 0 < c := by
  have h1 : 0 < a * d := Int.mul_pos ha hd
  apply Classical.byContradiction
  intro hc
  have : c * b ≤ 0 := Int.mul_nonpos_of_nonpos_of_nonneg (by omega) (by omega)
  omega
theorem neg_cross {a b c d : Int} (hb : 0 < b) (hd : 0 < d) (h : a * d ≤ c * b) (hc : c < 0) : a < 0 := by
  have h1 : c * b < 0 := Int.mul_neg_of_neg_of_pos hc hb
  apply Classical.byContradiction
  intro ha
  have : 0 ≤ a * d := Int.mul_nonneg (by omega) (by omega)
  omega
/-- The least size, as the program finds it. -/
theorem give_least {s : Sp} (h : S.Ok s) (he : s.em = false) : (if S.has s 0 1 = true then ((0, 1) : Int × Int) else S.give Q.min (Q.abs (s.ln, s.ld)) (Q.abs (s.hn, s.hd))) = S.least s := by
  rw [has_zero he]
  unfold S.least
  cases h1 : Q.isq s.ln s.ld
  · simp only [Bool.false_and, Bool.not_false, Bool.true_and, Bool.false_eq_true, if_false]
    cases h2 : Q.isq s.hn s.hd
    · simp
    · by_cases hn : s.hn < 0
      · simp only [hn, decide_true, Bool.true_and, Bool.not_true, Bool.false_eq_true, if_false, if_true]
        rw [abs_none h1, abs_num h2, if_pos hn]
        unfold S.give
        rw [if_neg (by simp [isq00])]
      · simp [hn]
  · have b1 := isq_bd h1
    by_cases hp : 0 < s.ln
    · simp only [hp, decide_true, Bool.true_and, Bool.not_true, Bool.false_and, Bool.false_eq_true, if_false, if_true]
      rw [abs_num h1, if_neg (by omega)]
      unfold S.give
      simp only [h1, if_true]
      cases h2 : Q.isq s.hn s.hd
      · rw [abs_none h2]; simp [isq00]
      · have b2 := isq_bd h2
        have hle := h.le h1 h2
        have hh := pos_cross (by omega) (by omega) hle hp
        rw [abs_num h2, if_neg (show ¬ s.hn < 0 by omega)]
        simp only [h2, if_true]
        unfold Q.min
        rw [if_pos (by simp [Q.both, h1, h2]), cmp_num h2 h1, if_neg (fun hx => by have h9 : s.hn * s.ld < s.ln * s.hd := (cmpi_neg _ _).1 hx; omega)]
    · have hd0 : decide (0 < s.ln) = false := by simp; omega
      simp only [hd0, Bool.and_false, Bool.not_false, Bool.true_and, Bool.false_eq_true, if_false]
      cases h2 : Q.isq s.hn s.hd
      · simp
      · have b2 := isq_bd h2
        by_cases hn : s.hn < 0
        · have hle := h.le h1 h2
          have hl := neg_cross (by omega) (by omega) hle hn
          simp only [hn, decide_true, Bool.true_and, Bool.not_true, Bool.false_eq_true, if_false, if_true]
          rw [abs_num h1, abs_num h2, if_pos hl, if_pos hn]
          unfold S.give
          simp only [isq_of_neg h1, isq_of_neg h2, if_true]
          unfold Q.min
          rw [if_pos (by simp [Q.both, isq_of_neg h1, isq_of_neg h2]), cmp_num (isq_of_neg h2) (isq_of_neg h1)]
          split
          · rfl
          · rename_i hx
            rw [cmpi_neg] at hx
            simp only [Int.neg_mul] at hx
            have e : s.ln * s.hd = s.hn * s.ld := by omega
            obtain ⟨e1, e2⟩ := cross h1 h2 e
            rw [e1, e2]
        · simp [hn]
theorem max_num {p q : Int × Int} (h : Q.isq (Q.max p q).1 (Q.max p q).2 = true) : Q.both p q = true := by
  unfold Q.max at h
  split at h
  · assumption
  · simp [isq00] at h
theorem least_max {s : Sp} (h : S.Ok s) : S.ooo (S.least s).1 (S.least s).2 (Q.max (Q.abs (s.ln, s.ld)) (Q.abs (s.hn, s.hd))).1 (Q.max (Q.abs (s.ln, s.ld)) (Q.abs (s.hn, s.hd))).2 = false := by
  refine ooo_no fun _ hm => ?_
  have hb := max_num hm
  have h1 : Q.isq s.ln s.ld = true := by
    cases hq : Q.isq s.ln s.ld
    · rw [abs_none hq] at hb; simp [Q.both, isq00] at hb
    · rfl
  have h2 : Q.isq s.hn s.hd = true := by
    cases hq : Q.isq s.hn s.hd
    · rw [abs_none hq] at hb; simp [Q.both, isq00] at hb
    · rfl
  have b1 := isq_bd h1
  have b2 := isq_bd h2
  have hle := h.le h1 h2
  have hmax : Q.max (Q.abs (s.ln, s.ld)) (Q.abs (s.hn, s.hd)) = (if (if s.ln < 0 then -s.ln else s.ln) * s.hd < (if s.hn < 0 then -s.hn else s.hn) * s.ld then (if s.hn < 0 then -s.hn else s.hn, s.hd) else (if s.ln < 0 then -s.ln else s.ln, s.ld)) := by
    unfold Q.max
    rw [if_pos hb, abs_num h1, abs_num h2]
    have i1 : Q.isq (if s.ln < 0 then -s.ln else s.ln) s.ld = true := by split; exact isq_of_neg h1; exact h1
    have i2 : Q.isq (if s.hn < 0 then -s.hn else s.hn) s.hd = true := by split; exact isq_of_neg h2; exact h2
    rw [cmp_num i2 i1]
    by_cases hx : (if s.ln < 0 then -s.ln else s.ln) * s.hd < (if s.hn < 0 then -s.hn else s.hn) * s.ld
    · rw [if_pos hx, if_pos ((cmpi_pos _ _).2 hx)]
    · rw [if_neg hx, if_neg (fun h => hx ((cmpi_pos _ _).1 h))]
  rw [hmax]
  have p1 : 0 < s.ld := by omega
  have p2 : 0 < s.hd := by omega
  have q1 : ∀ x y : Int, 0 ≤ x → 0 ≤ y → 0 ≤ x * y := fun x y h h' => Int.mul_nonneg h h'
  unfold S.least
  simp only [h1, h2, Bool.true_and, decide_eq_true_eq]
  by_cases hp : 0 < s.ln
  · have hh := pos_cross p1 p2 hle hp
    simp only [hp, if_true, show ¬ s.ln < 0 by omega, show ¬ s.hn < 0 by omega, if_false]
    split
    · simpa using hle
    · simp only []; omega
  · simp only [hp, if_false]
    by_cases hn : s.hn < 0
    · have hl := neg_cross p1 p2 hle hn
      simp only [hn, hl, if_true]
      split
      · simp only []; omega
      · rename_i hx; simp only [] at hx ⊢; omega
    · simp only [hn, if_false]
      show (0 : Int) * _ ≤ _ * 1
      rw [Int.zero_mul, Int.mul_one]
      repeat' split
      all_goals first
        | omega
        | (simp only []; omega)
theorem sizes_eq {s : Sp} (h : S.Ok s) (he : s.em = false) (hk : S.known s = s) (k : Int → Int → Int → Int → Int → Bool → Bool → Option DV) : span_sizes s.ln s.ld s.hn s.hd s.den s.no s.em k = (S.abs s).ap k := by
  have hg := give_least h he
  unfold span_sizes B_span_sizes ratio_Abs ratio_Max
  simp only [zero_eq, has_eq, make_eq, give_min (abs_valid h.lo) (abs_valid h.hi)]
  rw [show (⟨s.ln, s.ld, s.hn, s.hd, s.den, s.no, s.em⟩ : Sp) = s from rfl, hk]
  have hm := make_ok (least_valid h) (max_abs_valid h) (least_max h) (isden_ok h.d0 h.d1)
  unfold S.abs
  rw [← hm]
  cases hh : S.has s 0 1
  · rw [hh] at hg
    simp only [Bool.false_eq_true, if_false] at hg
    simp only [cond_false, hg]
  · rw [hh] at hg
    simp only [if_true] at hg
    simp only [cond_true, ← hg]
end Go.Proofs.YtiiddikiaafanaaGreatDoor

/-
  Spans as plain values: floor, round, frac, not; all operations of one in.
-/
namespace Go.Proofs.YtiiddikiaafanaaGreatDoor
open Go.Pv Go.RowKit

theorem ediv_mono {a b c d : Int} (hb : 0 < b) (hd : 0 < d) (h : a * d ≤ c * b) : a / b ≤ c / d := by
  rw [Int.le_ediv_iff_mul_le hd]
  have h1 : a / b * b ≤ a := Int.ediv_mul_le a (by omega)
  have h2 : a / b * b * d ≤ a * d := Int.mul_le_mul_of_nonneg_right h1 (by omega)
  have h3 : a / b * d * b ≤ c * b := by
    rw [Int.mul_assoc, Int.mul_comm d b, ← Int.mul_assoc]; omega
  exact Int.le_of_mul_le_mul_right h3 hb
theorem up_bd (n d : Int) (hd : 0 < d) : n / d ≤ Q.up n d ∧ Q.up n d ≤ n / d + 1 := by
  unfold Q.up; split <;> omega
/-- Twice a rest against the whole: the same for equal whole parts. -/
theorem up_mono {a b c d : Int} (hb : 0 < b) (hd : 0 < d) (h : a * d ≤ c * b) : Q.up a b ≤ Q.up c d := by
  have hm := ediv_mono hb hd h
  have b1 := up_bd a b hb
  have b2 := up_bd c d hd
  by_cases he : a / b = c / d
  · -- equal whole parts: the rests are in order
    have e1 := Int.mul_ediv_add_emod a b
    have e2 := Int.mul_ediv_add_emod c d
    have hr : (a % b) * d ≤ (c % d) * b := by
      have x1 : a * d = b * (a / b) * d + (a % b) * d := by rw [← Int.add_mul]; congr 1; omega
      have x2 : c * b = d * (c / d) * b + (c % d) * b := by rw [← Int.add_mul]; congr 1; omega
      have x3 : b * (a / b) * d = d * (c / d) * b := by
        rw [he, Int.mul_assoc, Int.mul_comm (c / d) d, ← Int.mul_assoc, Int.mul_comm b d, Int.mul_assoc, Int.mul_comm b (c / d), ← Int.mul_assoc]
      omega
    unfold Q.up
    rw [he]
    split
    · rename_i hx
      split
      · omega
      · rename_i hy
        exfalso
        have hy1 : ¬ d < 2 * (c % d) := fun h' => hy (.inl h')
        -- twice the rests
        have z1 : 2 * (a % b) * d ≤ 2 * (c % d) * b := by
          have := Int.mul_le_mul_of_nonneg_left hr (show (0 : Int) ≤ 2 by omega)
          rw [← Int.mul_assoc, ← Int.mul_assoc] at this; exact this
        have z2 : 2 * (c % d) * b ≤ d * b := Int.mul_le_mul_of_nonneg_right (by omega) (by omega)
        rcases hx with hx | ⟨hx, ho⟩
        · have z3 : b * d < 2 * (a % b) * d := Int.mul_lt_mul_of_pos_right hx hd
          rw [Int.mul_comm b d] at z3
          omega
        · have z3 : 2 * (a % b) * d = d * b := by rw [hx, Int.mul_comm]
          have z4 : 2 * (c % d) * b = d * b := by omega
          have z5 : 2 * (c % d) = d := Int.eq_of_mul_eq_mul_right (by omega) z4
          exact hy (.inr ⟨z5, ho⟩)
    · split <;> omega
  · omega
theorem mk1_val {n : Int} (h : -1073741824 ≤ n ∧ n ≤ 1073741824) : Q.mk n 1 = (n, 1) := (Q.mk_one h).1
theorem isq1 {n : Int} (h : -1073741824 ≤ n ∧ n ≤ 1073741824) : Q.isq n 1 = true := (Q.mk_one h).2
theorem floor_bd {a b : Int} (h : Q.isq a b = true) : -1073741824 ≤ a / b ∧ a / b ≤ 1073741824 := by
  have b1 := isq_bd h
  exact Q.div_bd a b 1073741824 (by omega) (by omega)
theorem up_lim {a b : Int} (h : Q.isq a b = true) : -1073741824 ≤ Q.up a b ∧ Q.up a b ≤ 1073741824 := by
  have b1 := isq_bd h
  have b2 := floor_bd h
  have b3 := up_bd a b (by omega)
  refine ⟨by omega, ?_⟩
  -- at most the greatest: up of a number is at most that of 1073741824 / 1
  have := up_mono (a := a) (b := b) (c := 1073741824) (d := 1) (by omega) (by omega) (by
    have : (1073741824 : Int) * 1 ≤ 1073741824 * b := Int.mul_le_mul_of_nonneg_left (by omega) (by omega)
    omega)
  have e : Q.up 1073741824 1 = 1073741824 := by decide
  omega
/-- Ends turned to whole ones by an order-keeping function. -/
theorem whole_make {s : Sp} (h : S.Ok s) (f : Int → Int → Int) (hm : ∀ a b c d, 0 < b → 0 < d → a * d ≤ c * b → f a b ≤ f c d) (hf : ∀ a b, Q.isq a b = true → -1073741824 ≤ f a b ∧ f a b ≤ 1073741824) (g : Int × Int → Int × Int)
    (hg : ∀ a b, g (a, b) = if Q.isq a b = true then Q.mk (f a b) 1 else (0, 0)) :
    S.make (g (s.ln, s.ld)).1 (g (s.ln, s.ld)).2 (g (s.hn, s.hd)).1 (g (s.hn, s.hd)).2 1 = ⟨(g (s.ln, s.ld)).1, (g (s.ln, s.ld)).2, (g (s.hn, s.hd)).1, (g (s.hn, s.hd)).2, 1, false, false⟩ := by
  have hv : ∀ a b, Q.valid ((g (a, b)).1, (g (a, b)).2) = true := by
    intro a b
    rw [hg]
    cases hq : Q.isq a b
    · rfl
    · simp only [if_true]
      rw [mk1_val (hf a b hq)]
      exact valid_isq (isq1 (hf a b hq))
  refine make_ok (hv _ _) (hv _ _) (ooo_no fun h1 h2 => ?_) (by decide)
  rw [hg] at h1 h2 ⊢
  rw [hg]
  cases hl : Q.isq s.ln s.ld
  · rw [hl] at h1; simp [isq00] at h1
  · cases hh : Q.isq s.hn s.hd
    · rw [hh] at h2; simp [isq00] at h2
    · have b1 := isq_bd hl
      have b2 := isq_bd hh
      simp only [if_true]
      rw [mk1_val (hf _ _ hl), mk1_val (hf _ _ hh)]
      have := hm _ _ _ _ (show 0 < s.ld by omega) (show 0 < s.hd by omega) (h.le hl hh)
      simp only []; omega
theorem floor_make {s : Sp} (h : S.Ok s) : S.make (Q.floor (s.ln, s.ld)).1 (Q.floor (s.ln, s.ld)).2 (Q.floor (s.hn, s.hd)).1 (Q.floor (s.hn, s.hd)).2 1 = ⟨(Q.floor (s.ln, s.ld)).1, (Q.floor (s.ln, s.ld)).2, (Q.floor (s.hn, s.hd)).1, (Q.floor (s.hn, s.hd)).2, 1, false, false⟩ := whole_make h (fun a b => a / b) (fun _ _ _ _ => ediv_mono) (fun _ _ => floor_bd) Q.floor (fun _ _ => rfl)
theorem round_make {s : Sp} (h : S.Ok s) : S.make (Q.round (s.ln, s.ld)).1 (Q.round (s.ln, s.ld)).2 (Q.round (s.hn, s.hd)).1 (Q.round (s.hn, s.hd)).2 1 = ⟨(Q.round (s.ln, s.ld)).1, (Q.round (s.ln, s.ld)).2, (Q.round (s.hn, s.hd)).1, (Q.round (s.hn, s.hd)).2, 1, false, false⟩ := whole_make h Q.up (fun _ _ _ _ => up_mono) (fun _ _ => up_lim) Q.round (fun _ _ => rfl)
theorem make_unit {n : Int} (h : S.isden n = true) : S.make 0 1 1 1 n = ⟨0, 1, 1, 1, n, false, false⟩ := make_ok (by decide) (by decide) (by decide) h

namespace S
def two (o : Bool) : Sp := if o = true then ⟨1, 1, 1, 1, 1, false, false⟩ else ⟨0, 1, 0, 1, 1, false, false⟩
def not (s : Sp) : Sp := if iszero s = true then two true else if has s 0 1 = true then ⟨0, 1, 1, 1, 1, false, false⟩ else two false
def frac (s : Sp) : Sp := if s.den = 1 then ⟨0, 1, 0, 1, 1, false, false⟩ else ⟨0, 1, 1, 1, s.den, false, false⟩
end S
theorem point01 : S.point 0 1 = S.two false := by unfold S.point S.two; rw [if_pos isq01]; rfl
theorem point11 : S.point 1 1 = S.two true := by unfold S.point S.two; rw [if_pos isq11]; rfl
theorem opposites_eq {s : Sp} (h : S.Ok s) (hk : S.known s = s) (k : Int → Int → Int → Int → Int → Bool → Bool → Option DV) : span_opposites s.ln s.ld s.hn s.hd s.den s.no s.em k = (S.not s).ap k := by
  unfold span_opposites B_span_opposites S.not
  simp only [iszero_eq h, one_eq, zero_eq, point_eq, has_eq, either_eq]
  rw [show (⟨s.ln, s.ld, s.hn, s.hd, s.den, s.no, s.em⟩ : Sp) = s from rfl, hk, point01, point11]
  cases S.iszero s <;> cases S.has s 0 1 <;> rfl
theorem rests_eq {s : Sp} (h : S.Ok s) (k : Int → Int → Int → Int → Int → Bool → Bool → Option DV) : span_rests s.ln s.ld s.hn s.hd s.den s.no s.em k = (S.frac s).ap k := by
  unfold span_rests B_span_rests S.frac
  simp only [one_eq, zero_eq, point_eq, make_eq, point01, make_unit (isden_ok h.d0 h.d1)]
  by_cases hd : s.den = 1
  · simp [hd, S.two]
  · rw [if_neg hd, beq_false_of_ne hd]
    rfl
end Go.Proofs.YtiiddikiaafanaaGreatDoor

/-
  Spans as plain values: all operations of one in.
-/
namespace Go.Proofs.YtiiddikiaafanaaGreatDoor
open Go.Pv Go.RowKit

theorem of_neg (a b c d n : Int) (o e : Bool) (k : Int → Int → Int → Int → Int → Bool → Bool → Option DV) : span_ofOne ⟨#[110, 101, 103]⟩ a b c d n o e k = span_turned a b c d n o e k := by kernel_rfl
theorem of_abs (a b c d n : Int) (o e : Bool) (k : Int → Int → Int → Int → Int → Bool → Bool → Option DV) : span_ofOne ⟨#[97, 98, 115]⟩ a b c d n o e k = span_sizes a b c d n o e k := by kernel_rfl
theorem of_floor (a b c d n : Int) (o e : Bool) (k : Int → Int → Int → Int → Int → Bool → Bool → Option DV) : span_ofOne ⟨#[102, 108, 111, 111, 114]⟩ a b c d n o e k = ratio_Floor a b (fun r1 r2 => ratio_Floor c d (fun r3 r4 => span_Make r1 r2 r3 r4 1 k)) := by kernel_rfl
theorem of_round (a b c d n : Int) (o e : Bool) (k : Int → Int → Int → Int → Int → Bool → Bool → Option DV) : span_ofOne ⟨#[114, 111, 117, 110, 100]⟩ a b c d n o e k = ratio_Round a b (fun r1 r2 => ratio_Round c d (fun r3 r4 => span_Make r1 r2 r3 r4 1 k)) := by kernel_rfl
theorem of_frac (a b c d n : Int) (o e : Bool) (k : Int → Int → Int → Int → Int → Bool → Bool → Option DV) : span_ofOne ⟨#[102, 114, 97, 99]⟩ a b c d n o e k = span_rests a b c d n o e k := by kernel_rfl
theorem of_not (a b c d n : Int) (o e : Bool) (k : Int → Int → Int → Int → Int → Bool → Bool → Option DV) : span_ofOne ⟨#[110, 111, 116]⟩ a b c d n o e k = span_opposites a b c d n o e k := by kernel_rfl
end Go.Proofs.YtiiddikiaafanaaGreatDoor
