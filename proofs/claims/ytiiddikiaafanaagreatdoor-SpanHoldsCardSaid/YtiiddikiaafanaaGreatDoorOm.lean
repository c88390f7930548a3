import Derived.Test.YtiiddikiaafanaaGreatDoorOi
set_option linter.all false
/-
  Spans as plain values: rests, the lesser and the greater, orders, on both sides.
-/
namespace Go.Proofs.YtiiddikiaafanaaGreatDoor
open Go.Pv Go.RowKit

theorem trans_le {a b c d e f : Int} (hb : 0 < b) (hd : 0 < d) (hf : 0 < f) (h1 : a * d ≤ c * b) (h2 : c * f ≤ e * d) : a * f ≤ e * b := by
  have e1 : a * d * f ≤ c * b * f := Int.mul_le_mul_of_nonneg_right h1 (by omega)
  have e2 : c * f * b ≤ e * d * b := Int.mul_le_mul_of_nonneg_right h2 (by omega)
  have e3 : a * f * d ≤ e * b * d := by
    rw [Int.mul_right_comm a f d, Int.mul_right_comm e b d]
    rw [Int.mul_right_comm c b f] at e1
    omega
  exact Int.le_of_mul_le_mul_right e3 hd
/-- A chosen end: one of the two, and how it lies to both. -/
theorem min_pick {a b c d : Int} (h : Q.isq a b = true) (h2 : Q.isq c d = true) : (Q.min (a, b) (c, d) = (a, b) ∧ a * d ≤ c * b) ∨ (Q.min (a, b) (c, d) = (c, d) ∧ c * b ≤ a * d) := by
  unfold Q.min
  rw [if_pos (by simp [Q.both, h, h2]), cmp_num h2 h]
  split
  · rename_i hx; rw [cmpi_neg] at hx; exact .inr ⟨rfl, by omega⟩
  · rename_i hx; rw [cmpi_neg] at hx; exact .inl ⟨rfl, by omega⟩
theorem max_pick {a b c d : Int} (h : Q.isq a b = true) (h2 : Q.isq c d = true) : (Q.max (a, b) (c, d) = (a, b) ∧ c * b ≤ a * d) ∨ (Q.max (a, b) (c, d) = (c, d) ∧ a * d ≤ c * b) := by
  unfold Q.max
  rw [if_pos (by simp [Q.both, h, h2]), cmp_num h2 h]
  split
  · rename_i hx; rw [cmpi_pos] at hx; exact .inr ⟨rfl, by omega⟩
  · rename_i hx; rw [cmpi_pos] at hx; exact .inl ⟨rfl, by omega⟩
theorem min_none {p q : Int × Int} (h : Q.both p q = false) : Q.min p q = (0, 0) := by unfold Q.min; rw [if_neg (by simp [h])]
theorem max_none {p q : Int × Int} (h : Q.both p q = false) : Q.max p q = (0, 0) := by unfold Q.max; rw [if_neg (by simp [h])]
namespace S
def lesser (s t : Sp) : Sp := ⟨(Q.min (s.ln, s.ld) (t.ln, t.ld)).1, (Q.min (s.ln, s.ld) (t.ln, t.ld)).2, (give Q.min (s.hn, s.hd) (t.hn, t.hd)).1, (give Q.min (s.hn, s.hd) (t.hn, t.hd)).2, common s.den t.den, false, false⟩
def greater (s t : Sp) : Sp := ⟨(give Q.max (s.ln, s.ld) (t.ln, t.ld)).1, (give Q.max (s.ln, s.ld) (t.ln, t.ld)).2, (Q.max (s.hn, s.hd) (t.hn, t.hd)).1, (Q.max (s.hn, s.hd) (t.hn, t.hd)).2, common s.den t.den, false, false⟩
end S
theorem lesser_make {s t : Sp} (hs : S.Ok s) (ht : S.Ok t) : S.make (S.lesser s t).ln (S.lesser s t).ld (S.lesser s t).hn (S.lesser s t).hd (S.lesser s t).den = S.lesser s t := by
  have b3 := common_bd s.den t.den
  refine make_ok (valid_min hs.lo ht.lo) (valid_give (valid_min hs.hi ht.hi) hs.hi ht.hi) (ooo_no fun h1 h2 => ?_) (isden_ok b3.1 b3.2)
  unfold S.lesser at h1 h2 ⊢
  simp only [] at h1 h2 ⊢
  cases hl : Q.isq s.ln s.ld
  · rw [min_none (by simp [Q.both, hl])] at h1; simp [isq00] at h1
  cases hl2 : Q.isq t.ln t.ld
  · rw [min_none (by simp [Q.both, hl2])] at h1; simp [isq00] at h1
  have bl := isq_bd hl
  have bl2 := isq_bd hl2
  unfold S.give at h2 ⊢
  simp only [] at h2 ⊢
  cases hh : Q.isq s.hn s.hd
  · rw [hh] at h2
    simp only [Bool.false_eq_true, if_false] at h2 ⊢
    have bh := isq_bd h2
    have hle := ht.le hl2 h2
    rcases min_pick hl hl2 with ⟨e, hx⟩ | ⟨e, hx⟩
    · rw [e]; exact trans_le (by omega) (by omega) (by omega) hx hle
    · rw [e]; exact hle
  · have bh := isq_bd hh
    have hle := hs.le hl hh
    simp only [if_true] at h2 ⊢
    cases hh2 : Q.isq t.hn t.hd
    · simp only [Bool.false_eq_true, if_false]
      rcases min_pick hl hl2 with ⟨e, hx⟩ | ⟨e, hx⟩
      · rw [e]; exact hle
      · rw [e]; exact trans_le (by omega) (by omega) (by omega) hx hle
    · have bh2 := isq_bd hh2
      have hle2 := ht.le hl2 hh2
      simp only [if_true]
      rcases min_pick hl hl2 with ⟨e, hx⟩ | ⟨e, hx⟩ <;> rcases min_pick hh hh2 with ⟨e2, hy⟩ | ⟨e2, hy⟩ <;> rw [e, e2]
      · exact hle
      · exact trans_le (by omega) (by omega) (by omega) hx hle2
      · exact trans_le (by omega) (by omega) (by omega) hx hle
      · exact hle2
theorem greater_make {s t : Sp} (hs : S.Ok s) (ht : S.Ok t) : S.make (S.greater s t).ln (S.greater s t).ld (S.greater s t).hn (S.greater s t).hd (S.greater s t).den = S.greater s t := by
  have b3 := common_bd s.den t.den
  refine make_ok (valid_give (valid_max hs.lo ht.lo) hs.lo ht.lo) (valid_max hs.hi ht.hi) (ooo_no fun h1 h2 => ?_) (isden_ok b3.1 b3.2)
  unfold S.greater at h1 h2 ⊢
  simp only [] at h1 h2 ⊢
  cases hh : Q.isq s.hn s.hd
  · rw [max_none (by simp [Q.both, hh])] at h2; simp [isq00] at h2
  cases hh2 : Q.isq t.hn t.hd
  · rw [max_none (by simp [Q.both, hh2])] at h2; simp [isq00] at h2
  have bh := isq_bd hh
  have bh2 := isq_bd hh2
  unfold S.give at h1 ⊢
  simp only [] at h1 ⊢
  cases hl : Q.isq s.ln s.ld
  · rw [hl] at h1
    simp only [Bool.false_eq_true, if_false] at h1 ⊢
    have bl := isq_bd h1
    have hle := ht.le h1 hh2
    rcases max_pick hh hh2 with ⟨e, hx⟩ | ⟨e, hx⟩
    · rw [e]; exact trans_le (by omega) (by omega) (by omega) hle hx
    · rw [e]; exact hle
  · have bl := isq_bd hl
    have hle := hs.le hl hh
    simp only [if_true] at h1 ⊢
    cases hl2 : Q.isq t.ln t.ld
    · simp only [Bool.false_eq_true, if_false]
      rcases max_pick hh hh2 with ⟨e, hx⟩ | ⟨e, hx⟩
      · rw [e]; exact hle
      · rw [e]; exact trans_le (by omega) (by omega) (by omega) hle hx
    · have bl2 := isq_bd hl2
      have hle2 := ht.le hl2 hh2
      simp only [if_true]
      rcases max_pick hl hl2 with ⟨e, hx⟩ | ⟨e, hx⟩ <;> rcases max_pick hh hh2 with ⟨e2, hy⟩ | ⟨e2, hy⟩ <;> rw [e, e2]
      · exact hle
      · exact trans_le (by omega) (by omega) (by omega) hle hy
      · exact trans_le (by omega) (by omega) (by omega) hle2 hy
      · exact hle2
namespace S
def rest (s t : Sp) : Sp := if (Q.isq t.ln t.ld && decide (0 < t.ln)) = true then close (lowE 0 1) (upE t.hn t.hd) (common s.den t.den) else all
end S
theorem exactly_eq (a b : Int) (k : Int → Int → Option DV) : span_exactly a b k = k a b := rfl
namespace S
/-- An answer that is told, or left open. -/
def deci (y n : Bool) : Sp := if y = true then two true else if n = true then two false else ⟨0, 1, 1, 1, 1, false, false⟩
end S
theorem truth1 : Q.truth true = (1, 1) := by decide
theorem truth0 : Q.truth false = (0, 1) := by decide
/-- What a test of two numbers tells. -/
def tq (f : Int → Int → Bool) (p q : Int × Int) : Int × Int := if Q.both p q = true then Q.truth (f (p.1 * q.2) (q.1 * p.2)) else (0, 0)
theorem tq_one (f : Int → Int → Bool) (a b c d : Int) : (((tq f (a, b) (c, d)).1 == 1) && (((tq f (a, b) (c, d)).2 == 1) && true)) = (Q.isq a b && Q.isq c d && f (a * d) (c * b)) := by
  unfold tq Q.both
  cases Q.isq a b <;> cases Q.isq c d <;> simp
  cases f (a * d) (c * b)
  · rw [truth0]; rfl
  · rw [truth1]; rfl
theorem tq_zero (f : Int → Int → Bool) (a b c d : Int) : (((tq f (a, b) (c, d)).1 == 0) && (((tq f (a, b) (c, d)).2 == 1) && true)) = (Q.isq a b && Q.isq c d && !f (a * d) (c * b)) := by
  unfold tq Q.both
  cases Q.isq a b <;> cases Q.isq c d <;> simp
  cases f (a * d) (c * b)
  · rw [truth0]; rfl
  · rw [truth1]; rfl
theorem lit_lt : (ByteArray.toList (⟨#[108, 116]⟩)) = [108, 116] := by kernel_rfl
theorem lit_le : (ByteArray.toList (⟨#[108, 101]⟩)) = [108, 101] := by kernel_rfl
theorem lit_eq : (ByteArray.toList (⟨#[101, 113]⟩)) = [101, 113] := by kernel_rfl
theorem lit_ne' : (ByteArray.toList (⟨#[110, 101]⟩)) = [110, 101] := by kernel_rfl
theorem cmpi_le (x y : Int) : decide (Q.cmpi x y ≤ 0) = decide (x ≤ y) := by
  unfold Q.cmpi
  split
  · simp; omega
  · split <;> simp <;> omega
theorem test_lt (a b c d : Int) (k : Int → Int → Option DV) : ratio_Test ⟨#[108, 116]⟩ a b c d k = k (tq (fun x y => decide (x < y)) (a, b) (c, d)).1 (tq (fun x y => decide (x < y)) (a, b) (c, d)).2 := by
  unfold ratio_Test tq Q.tst
  rw [lit_lt]
  cases hb : Q.both (a, b) (c, d)
  · rfl
  · obtain ⟨h1, h2⟩ := (Q.both_iff _ _).1 hb
    simp only [if_true, cmp_num h1 h2, cmpi_lt]
    rfl
theorem test_le (a b c d : Int) (k : Int → Int → Option DV) : ratio_Test ⟨#[108, 101]⟩ a b c d k = k (tq (fun x y => decide (x ≤ y)) (a, b) (c, d)).1 (tq (fun x y => decide (x ≤ y)) (a, b) (c, d)).2 := by
  unfold ratio_Test tq Q.tst
  rw [lit_le]
  cases hb : Q.both (a, b) (c, d)
  · rfl
  · obtain ⟨h1, h2⟩ := (Q.both_iff _ _).1 hb
    simp only [if_true, cmp_num h1 h2, cmpi_le]
    rfl
theorem test_eq (a b c d : Int) (k : Int → Int → Option DV) : ratio_Test ⟨#[101, 113]⟩ a b c d k = k (tq (fun x y => x == y) (a, b) (c, d)).1 (tq (fun x y => x == y) (a, b) (c, d)).2 := by
  unfold ratio_Test tq Q.tst
  rw [lit_eq]
  cases hb : Q.both (a, b) (c, d)
  · rfl
  · obtain ⟨h1, h2⟩ := (Q.both_iff _ _).1 hb
    simp only [if_true, cmp_num h1 h2, cmpi_eq]
    rfl
theorem test_ne (a b c d : Int) (k : Int → Int → Option DV) : ratio_Test ⟨#[110, 101]⟩ a b c d k = k (tq (fun x y => x != y) (a, b) (c, d)).1 (tq (fun x y => x != y) (a, b) (c, d)).2 := by
  unfold ratio_Test tq Q.tst
  rw [lit_ne']
  cases hb : Q.both (a, b) (c, d)
  · rfl
  · obtain ⟨h1, h2⟩ := (Q.both_iff _ _).1 hb
    simp only [if_true, cmp_num h1 h2, cmpi_eq, bne]
    rfl
end Go.Proofs.YtiiddikiaafanaaGreatDoor

/-
  Spans as plain values: answers of orders, on both sides.
-/
namespace Go.Proofs.YtiiddikiaafanaaGreatDoor
open Go.Pv Go.RowKit

theorem point_two (b : Bool) (k : Int → Int → Int → Int → Int → Bool → Bool → Option DV) : span_Point (if b = true then 1 else 0) 1 k = (S.two b).ap k := by
  rw [point_eq]
  cases b
  · rw [if_neg (by decide), point01]
  · rw [if_pos rfl, point11]
theorem point_one (k : Int → Int → Int → Int → Int → Bool → Bool → Option DV) : span_Point 1 1 k = (S.two true).ap k := point_two true k
theorem point_zero (k : Int → Int → Int → Int → Int → Bool → Bool → Option DV) : span_Point 0 1 k = (S.two false).ap k := point_two false k
/-- How the program decides, of a test that is told. -/
theorem decides (f : Int → Int → Bool) (a b c d a' b' c' d' : Int) (k : Int → Int → Int → Int → Int → Bool → Bool → Option DV) (y n : Bool) (hy : y = (Q.isq c d && Q.isq a' b' && f (c * b') (a' * d))) (hn : n = (Q.isq a b && Q.isq c' d' && !f (a * d') (c' * b))) :
    (bif (((tq f (c, d) (a', b')).1 == 1) && (((tq f (c, d) (a', b')).2 == 1) && true)) then span_Point 1 1 k else
      (bif (((tq f (a, b) (c', d')).1 == 0) && (((tq f (a, b) (c', d')).2 == 1) && true)) then span_Point 0 1 k else span_either k)) = (S.deci y n).ap k := by
  rw [tq_one, tq_zero, ← hy, ← hn, point_one, point_zero, either_eq]
  unfold S.deci
  cases y <;> cases n <;> rfl
theorem truths_lt (a b c d n : Int) (o e : Bool) (a' b' c' d' n' : Int) (o' e' : Bool) (k : Int → Int → Int → Int → Int → Bool → Bool → Option DV) :
    span_truths ⟨#[108, 116]⟩ a b c d n o e a' b' c' d' n' o' e' k = (S.deci (Q.isq c d && Q.isq a' b' && decide (c * b' < a' * d)) (Q.isq a b && Q.isq c' d' && !decide (a * d' < c' * b))).ap k := by
  unfold span_truths B_span_truths
  simp only [lc_lt_eq, lc_lt_ne, cond_false, cond_true, Bool.not_false, test_lt, one_eq, zero_eq]
  exact decides (fun x y => decide (x < y)) a b c d a' b' c' d' k _ _ rfl rfl
theorem truths_le (a b c d n : Int) (o e : Bool) (a' b' c' d' n' : Int) (o' e' : Bool) (k : Int → Int → Int → Int → Int → Bool → Bool → Option DV) :
    span_truths ⟨#[108, 101]⟩ a b c d n o e a' b' c' d' n' o' e' k = (S.deci (Q.isq c d && Q.isq a' b' && decide (c * b' ≤ a' * d)) (Q.isq a b && Q.isq c' d' && !decide (a * d' ≤ c' * b))).ap k := by
  unfold span_truths B_span_truths
  simp only [lc_le_eq, lc_le_ne, cond_false, cond_true, Bool.not_false, test_le, one_eq, zero_eq]
  exact decides (fun x y => decide (x ≤ y)) a b c d a' b' c' d' k _ _ rfl rfl
theorem not_lt_le (x y : Int) : (!decide (x < y)) = decide (y ≤ x) := by by_cases h : x < y <;> simp [h] <;> omega
theorem not_le_lt (x y : Int) : (!decide (x ≤ y)) = decide (y < x) := by by_cases h : x ≤ y <;> simp [h] <;> omega
/-- Equal, of two points. -/
def same (s t : Sp) : Bool := s.ln * t.ld == t.ln * s.ld
theorem pt_of {s : Sp} (h : S.ispt s = true) : Q.isq s.ln s.ld = true ∧ Q.isq s.hn s.hd = true ∧ s.hn = s.ln ∧ s.hd = s.ld := by
  unfold S.ispt at h
  simp at h
  obtain ⟨h1, h2, h3⟩ := h
  exact ⟨h1, by rw [← h2, ← h3]; exact h1, h2.symm, h3.symm⟩
theorem truths_eq {s t : Sp} (hs : S.Ok s) (ht : S.Ok t) (k : Int → Int → Int → Int → Int → Bool → Bool → Option DV) :
    span_truths ⟨#[101, 113]⟩ s.ln s.ld s.hn s.hd s.den s.no s.em t.ln t.ld t.hn t.hd t.den t.no t.em k = (S.deci (S.ispt s && S.ispt t && same s t) (S.ispt s && S.ispt t && !same s t)).ap k := by
  unfold span_truths B_span_truths
  simp only [lc_eq_eq, cond_false, cond_true, Bool.not_true, ispt_eq hs, ispt_eq ht]
  cases h1 : S.ispt s
  · rw [cond_false, either_eq]; rfl
  · cases h2 : S.ispt t
    · simp only [cond_true, Bool.not_false, either_eq]; rfl
    · obtain ⟨p1, p2, p3, p4⟩ := pt_of h1
      obtain ⟨q1, q2, q3, q4⟩ := pt_of h2
      simp only [cond_true, Bool.not_true, cond_false, test_eq, one_eq, zero_eq]
      refine decides (fun x y => x == y) s.ln s.ld s.hn s.hd t.ln t.ld t.hn t.hd k _ _ ?_ ?_
      · rw [p2, q1, p3, p4]; rfl
      · rw [p1, q2, q3, q4]; rfl
theorem truths_ne {s t : Sp} (hs : S.Ok s) (ht : S.Ok t) (k : Int → Int → Int → Int → Int → Bool → Bool → Option DV) :
    span_truths ⟨#[110, 101]⟩ s.ln s.ld s.hn s.hd s.den s.no s.em t.ln t.ld t.hn t.hd t.den t.no t.em k = (S.deci (S.ispt s && S.ispt t && !same s t) (S.ispt s && S.ispt t && same s t)).ap k := by
  unfold span_truths B_span_truths
  simp only [lc_ne_eq, lc_ne_ne, cond_false, cond_true, Bool.not_false, ispt_eq hs, ispt_eq ht]
  cases h1 : S.ispt s
  · rw [cond_false, either_eq]; rfl
  · cases h2 : S.ispt t
    · simp only [cond_true, Bool.not_false, either_eq]; rfl
    · obtain ⟨p1, p2, p3, p4⟩ := pt_of h1
      obtain ⟨q1, q2, q3, q4⟩ := pt_of h2
      simp only [cond_true, Bool.not_true, cond_false, test_ne, one_eq, zero_eq]
      refine decides (fun x y => x != y) s.ln s.ld s.hn s.hd t.ln t.ld t.hn t.hd k _ _ ?_ ?_
      · rw [p2, q1, p3, p4]; rfl
      · rw [p1, q2, q3, q4]
        show (true && true && same s t) = (true && true && !(!same s t))
        rw [Bool.not_not]
end Go.Proofs.YtiiddikiaafanaaGreatDoor

/-
  Exact comparing of fractions: by products of 128 bits, and by whole parts and rests turned over: both are that of the cross products.
-/
namespace Go.Proofs.YtiiddikiaafanaaGreatDoor
open Go.Pv Go.RowKit

theorem mul64_eq {a b : Int} (ha : 0 ≤ a ∧ a ≤ 4611686018427387904) (hb : 0 ≤ b ∧ b ≤ 1152921504606846976) (k : Int → Int → Option DV) : bits_Mul64 a b k = k (a * b / 18446744073709551616) (a * b % 18446744073709551616) := by
  unfold bits_Mul64
  rw [decide_eq_true ⟨⟨ha.1, by omega⟩, hb.1, by omega⟩, cond_true]
theorem nan_u64 (x : Int) (k : Bool → Option DV) : cmp_isNaN_uint64 x k = k false := by
  unfold cmp_isNaN_uint64 B_cmp_isNaN_uint64
  simp
theorem compare_u64 (x y : Int) (k : Int → Option DV) : cmp_Compare_uint64 x y k = k (Q.cmpi x y) := by
  unfold cmp_Compare_uint64 B_cmp_Compare_uint64 Q.cmpi
  simp only [nan_u64, cond_false]
  by_cases h : x < y
  · simp [h]
  · by_cases h2 : y < x <;> simp [h, h2]
/-- By high and low parts. -/
theorem cmpi_parts {x y : Int} : (if Q.cmpi (x / 18446744073709551616) (y / 18446744073709551616) ≠ 0 then Q.cmpi (x / 18446744073709551616) (y / 18446744073709551616) else Q.cmpi (x % 18446744073709551616) (y % 18446744073709551616)) = Q.cmpi x y := by
  unfold Q.cmpi
  repeat' split
  all_goals omega
theorem or_eq (x y : Int) (k : Int → Option DV) : cmp_Or_int_n2 x y k = k (if x ≠ 0 then x else y) := by
  unfold cmp_Or_int_n2 B_cmp_Or_int_n2
  by_cases h : x = 0
  · by_cases h2 : y = 0
    · simp [h, h2]
    · have e : (y != 0) = true := by simp [h2]
      simp [h, e]
  · have e : (x != 0) = true := by simp [h]
    simp [h, e]
theorem size_eq {a : Int} (h : -4611686018427387904 ≤ a ∧ a ≤ 4611686018427387904) (k : Int → Option DV) : span_size a k = k (a.natAbs : Int) := by
  unfold span_size B_span_size
  rw [Int.zero_sub, IntWalk.i64_in (-a) (by omega)]
  have e1 : (if -a > a then -a else a) = (a.natAbs : Int) := by split <;> omega
  rw [e1, IntWalk.u64_in _ (by omega)]
theorem cmpi_neg_neg (x y : Int) : Q.cmpi (-x) (-y) = -Q.cmpi x y := by
  unfold Q.cmpi
  repeat' split
  all_goals omega
theorem cmpi_01 (x y : Int) : -1 ≤ Q.cmpi x y ∧ Q.cmpi x y ≤ 1 := by
  unfold Q.cmpi
  repeat' split
  all_goals omega
theorem compare_eq {a b c d : Int} (ha : -4611686018427387904 ≤ a ∧ a ≤ 4611686018427387904) (hb : 1 ≤ b ∧ b ≤ 1152921504606846976) (hc : -4611686018427387904 ≤ c ∧ c ≤ 4611686018427387904) (hd : 1 ≤ d ∧ d ≤ 1152921504606846976) (k : Int → Option DV) :
    span_compare a b c d k = k (Q.cmpi (a * d) (c * b)) := by
  unfold span_compare B_span_compare cmp_Compare_int64
  have w1 : IntKind.wrap .u64 d = d := IntWalk.u64_in _ (by omega)
  have w2 : IntKind.wrap .u64 b = b := IntWalk.u64_in _ (by omega)
  simp only [w1, w2, size_eq ha, size_eq hc, mul64_eq (a := (a.natAbs : Int)) (b := d) (by omega) (by omega), mul64_eq (a := (c.natAbs : Int)) (b := b) (by omega) (by omega), compare_u64, or_eq, cmpi_parts]
  by_cases h1 : a < 0 <;> by_cases h2 : c < 0
  · have e1 : (a.natAbs : Int) * d = -(a * d) := by rw [← Int.neg_mul]; congr 1; omega
    have e2 : (c.natAbs : Int) * b = -(c * b) := by rw [← Int.neg_mul]; congr 1; omega
    have hr := cmpi_01 (a * d) (c * b)
    rw [e1, e2, cmpi_neg_neg]
    have w : IntKind.wrap .i64 (Q.cmpi (a * d) (c * b)) = Q.cmpi (a * d) (c * b) := IntWalk.i64_in _ (by omega)
    simp [h1, h2, w]
  · have e1 : a * d < 0 := Int.mul_neg_of_neg_of_pos h1 (by omega)
    have e2 : 0 ≤ c * b := Int.mul_nonneg (by omega) (by omega)
    have c1 : Q.cmpi a c = -1 := by unfold Q.cmpi; rw [if_pos (by omega)]
    have c2 : Q.cmpi (a * d) (c * b) = -1 := by unfold Q.cmpi; rw [if_pos (by omega)]
    simp [h1, h2, c1, c2]
  · have e1 : c * b < 0 := Int.mul_neg_of_neg_of_pos h2 (by omega)
    have e2 : 0 ≤ a * d := Int.mul_nonneg (by omega) (by omega)
    have c1 : Q.cmpi a c = 1 := by unfold Q.cmpi; rw [if_neg (by omega), if_pos (by omega)]
    have c2 : Q.cmpi (a * d) (c * b) = 1 := by unfold Q.cmpi; rw [if_neg (by omega), if_pos (by omega)]
    simp [h1, h2, c1, c2]
  · have e1 : (a.natAbs : Int) = a := by omega
    have e2 : (c.natAbs : Int) = c := by omega
    rw [e1, e2]
    simp [h1, h2]
end Go.Proofs.YtiiddikiaafanaaGreatDoor

/-
  The specification's comparing of fractions by whole parts: it comes to an end, and is that of the cross products.
-/
namespace Go.Proofs.YtiiddikiaafanaaGreatDoor
open Go.Pv Go.RowKit

/-- What a step compares. -/
structure Stp2 (a b c d x y r s : Int) : Prop where
  r0 : 0 ≤ r
  r1 : r < b
  s0 : 0 ≤ s
  s1 : s < d
  lt : x < y → Q.cmpi (a * d) (c * b) = -1
  gt : y < x → Q.cmpi (a * d) (c * b) = 1
  eq : x = y → Q.cmpi (a * d) (c * b) = Q.cmpi (r * d) (s * b)
end Go.Proofs.YtiiddikiaafanaaGreatDoor
