/-
  Spans as plain values: answers of orders, on both sides.
-/
import Derived.Test.YtnidbhfpkjggmaaGreatDoorOj
set_option linter.all false
namespace Go.Proofs.YtnidbhfpkjggmaaGreatDoor
open Go.Pv Go.RowKit

theorem point_two (b : Bool) (k : Int → Int → Int → Int → Int → Bool → Bool → Option DV) : span_Point (if b = true then 1 else 0) 1 k = (S.two b).ap k := by
  rw [point_eq]
  cases b
  · rw [if_neg (by decide), point01]
  · rw [if_pos rfl, point11]
theorem point_one (k : Int → Int → Int → Int → Int → Bool → Bool → Option DV) : span_Point 1 1 k = (S.two true).ap k := point_two true k
theorem point_zero (k : Int → Int → Int → Int → Int → Bool → Bool → Option DV) : span_Point 0 1 k = (S.two false).ap k := point_two false k
/-- How the program decides, of a test that is told. -/
theorem decides (f : Int → Int → Bool) (a b c d a' b' c' d' : Int) (k : Int → Int → Int → Int → Int → Bool → Bool → Option DV) (y n : Bool) (hy : y = (Q.isq c d && Q.isq a' b' && f (c * b') (a' * d))) (hn : n = (Q.isq a b && Q.isq c' d' && !f (a * d') (c' * b))) :
    (bif (((tq f (c, d) (a', b')).1 == 1) && (((tq f (c, d) (a', b')).2 == 1) && true)) then span_Point 1 1 k else
      (bif (((tq f (a, b) (c', d')).1 == 0) && (((tq f (a, b) (c', d')).2 == 1) && true)) then span_Point 0 1 k else span_either k)) = (S.deci y n).ap k := by
  rw [tq_one, tq_zero, ← hy, ← hn, point_one, point_zero, either_eq]
  unfold S.deci
  cases y <;> cases n <;> rfl
theorem truths_lt (a b c d n : Int) (o e : Bool) (a' b' c' d' n' : Int) (o' e' : Bool) (k : Int → Int → Int → Int → Int → Bool → Bool → Option DV) :
    span_truths ⟨#[108, 116]⟩ a b c d n o e a' b' c' d' n' o' e' k = (S.deci (Q.isq c d && Q.isq a' b' && decide (c * b' < a' * d)) (Q.isq a b && Q.isq c' d' && !decide (a * d' < c' * b))).ap k := by
  unfold span_truths B_span_truths
  simp only [lc_lt_eq, lc_lt_ne, cond_false, cond_true, Bool.not_false, test_lt, one_eq, zero_eq]
  exact decides (fun x y => decide (x < y)) a b c d a' b' c' d' k _ _ rfl rfl
theorem truths_le (a b c d n : Int) (o e : Bool) (a' b' c' d' n' : Int) (o' e' : Bool) (k : Int → Int → Int → Int → Int → Bool → Bool → Option DV) :
    span_truths ⟨#[108, 101]⟩ a b c d n o e a' b' c' d' n' o' e' k = (S.deci (Q.isq c d && Q.isq a' b' && decide (c * b' ≤ a' * d)) (Q.isq a b && Q.isq c' d' && !decide (a * d' ≤ c' * b))).ap k := by
  unfold span_truths B_span_truths
  simp only [lc_le_eq, lc_le_ne, cond_false, cond_true, Bool.not_false, test_le, one_eq, zero_eq]
  exact decides (fun x y => decide (x ≤ y)) a b c d a' b' c' d' k _ _ rfl rfl
/-- Both cannot be. -/
theorem not_both {s t : Sp} (hs : S.Ok s) (ht : S.Ok t) (x : Bool) (h1 : Q.isq s.hn s.hd = true) (h2 : Q.isq t.ln t.ld = true) (h3 : Q.isq s.ln s.ld = true) (h4 : Q.isq t.hn t.hd = true)
    (h5 : s.hn * t.ld < t.ln * s.hd ∨ (x = true ∧ s.hn * t.ld ≤ t.ln * s.hd)) (h6 : t.hn * s.ld < s.ln * t.hd ∨ (x = false ∧ t.hn * s.ld ≤ s.ln * t.hd)) : False := by
  have b1 := isq_bd h1
  have b2 := isq_bd h2
  have b3 := isq_bd h3
  have b4 := isq_bd h4
  have l1 := hs.le h3 h1
  have l2 := ht.le h2 h4
  -- s.hi <= t.lo <= t.hi <= s.lo <= s.hi, one of them strictly
  have e1 : s.hn * t.ld ≤ t.ln * s.hd := by rcases h5 with h | h <;> omega
  have e2 : t.hn * s.ld ≤ s.ln * t.hd := by rcases h6 with h | h <;> omega
  have c1 := trans_le (a := t.ln) (b := t.ld) (c := t.hn) (d := t.hd) (e := s.ln) (f := s.ld) (by omega) (by omega) (by omega) l2 e2
  have c2 := trans_le (a := t.ln) (b := t.ld) (c := s.ln) (d := s.ld) (e := s.hn) (f := s.hd) (by omega) (by omega) (by omega) c1 l1
  have d1 := trans_le (a := s.ln) (b := s.ld) (c := s.hn) (d := s.hd) (e := t.ln) (f := t.ld) (by omega) (by omega) (by omega) l1 e1
  have d2 := trans_le (a := s.ln) (b := s.ld) (c := t.ln) (d := t.ld) (e := t.hn) (f := t.hd) (by omega) (by omega) (by omega) d1 l2
  rcases h5 with h | ⟨hx, _⟩
  · omega
  · rcases h6 with h | ⟨hx', _⟩
    · omega
    · rw [hx] at hx'; cases hx'
theorem compared_lt (a b c d n : Int) (o e : Bool) (a' b' c' d' n' : Int) (o' e' : Bool) (z : Bool) (k : Int → Int → Int → Int → Int → Bool → Bool → Option DV) :
    serinetteref03_compared ⟨#[108, 116]⟩ a b c d n o e a' b' c' d' n' o' e' z k = serinetteref03_truth (Q.isq c d && Q.isq a' b' && (decide (c * b' < a' * d) || (false && (c * b' == a' * d)))) (Q.isq c' d' && Q.isq a b && (decide (c' * b < a * d') || (true && (c' * b == a * d')))) z k := by
  unfold serinetteref03_compared B_serinetteref03_compared
  simp only [lc_lt_lt, cond_true, less_eq]
theorem compared_le (a b c d n : Int) (o e : Bool) (a' b' c' d' n' : Int) (o' e' : Bool) (z : Bool) (k : Int → Int → Int → Int → Int → Bool → Bool → Option DV) :
    serinetteref03_compared ⟨#[108, 101]⟩ a b c d n o e a' b' c' d' n' o' e' z k = serinetteref03_truth (Q.isq c d && Q.isq a' b' && (decide (c * b' < a' * d) || (true && (c * b' == a' * d)))) (Q.isq c' d' && Q.isq a b && (decide (c' * b < a * d') || (false && (c' * b == a * d')))) z k := by
  unfold serinetteref03_compared B_serinetteref03_compared
  simp only [lc_le_lt, lc_le_le, cond_true, cond_false, less_eq]
theorem le_or (x y : Int) : (decide (x < y) || (x == y)) = decide (x ≤ y) := by
  by_cases h : x < y
  · have : x ≤ y := by omega
    simp [h, this]
  · by_cases h2 : x = y
    · subst h2; simp
    · have : ¬ x ≤ y := by omega
      simp [h, this, h2]
theorem not_lt_le (x y : Int) : (!decide (x < y)) = decide (y ≤ x) := by by_cases h : x < y <;> simp [h] <;> omega
theorem not_le_lt (x y : Int) : (!decide (x ≤ y)) = decide (y < x) := by by_cases h : x ≤ y <;> simp [h] <;> omega
theorem two_lt {s t : Sp} (hs : S.Ok s) (ht : S.Ok t) : TwoIs ⟨#[108, 116]⟩ s t (S.deci (Q.isq s.hn s.hd && Q.isq t.ln t.ld && decide (s.hn * t.ld < t.ln * s.hd)) (Q.isq s.ln s.ld && Q.isq t.hn t.hd && decide (t.hn * s.ld ≤ s.ln * t.hd))) := by
  refine ⟨fun k => by rw [tw_lt, truths_lt, not_lt_le], fun k => ?_, deci_em _ _⟩
  rw [rtw_lt, rcommon_eq hs.d0 hs.d1 ht.d0 ht.d1, compared_lt, Bool.false_and, Bool.or_false, Bool.true_and, le_or, Bool.and_comm (Q.isq t.hn t.hd)]
  refine truth_deci (fun h => ?_) _ k
  simp at h
  cases hn : (Q.isq s.ln s.ld && Q.isq t.hn t.hd && decide (t.hn * s.ld ≤ s.ln * t.hd))
  · rfl
  · simp at hn
    exact (not_both hs ht false h.1.1 h.1.2 hn.1.1 hn.1.2 (.inl h.2) (.inr ⟨rfl, hn.2⟩)).elim
theorem two_le {s t : Sp} (hs : S.Ok s) (ht : S.Ok t) : TwoIs ⟨#[108, 101]⟩ s t (S.deci (Q.isq s.hn s.hd && Q.isq t.ln t.ld && decide (s.hn * t.ld ≤ t.ln * s.hd)) (Q.isq s.ln s.ld && Q.isq t.hn t.hd && decide (t.hn * s.ld < s.ln * t.hd))) := by
  refine ⟨fun k => by rw [tw_le, truths_le, not_le_lt], fun k => ?_, deci_em _ _⟩
  rw [rtw_le, rcommon_eq hs.d0 hs.d1 ht.d0 ht.d1, compared_le, Bool.false_and, Bool.or_false, Bool.true_and, le_or, Bool.and_comm (Q.isq t.hn t.hd)]
  refine truth_deci (fun h => ?_) _ k
  simp at h
  cases hn : (Q.isq s.ln s.ld && Q.isq t.hn t.hd && decide (t.hn * s.ld < s.ln * t.hd))
  · rfl
  · simp at hn
    exact (not_both hs ht true h.1.1 h.1.2 hn.1.1 hn.1.2 (.inr ⟨rfl, h.2⟩) (.inl hn.2)).elim
/-- Equal, of two points. -/
def same (s t : Sp) : Bool := s.ln * t.ld == t.ln * s.ld
theorem pt_of {s : Sp} (h : S.ispt s = true) : Q.isq s.ln s.ld = true ∧ Q.isq s.hn s.hd = true ∧ s.hn = s.ln ∧ s.hd = s.ld := by
  unfold S.ispt at h
  simp at h
  obtain ⟨h1, h2, h3⟩ := h
  exact ⟨h1, by rw [← h2, ← h3]; exact h1, h2.symm, h3.symm⟩
theorem truths_eq {s t : Sp} (hs : S.Ok s) (ht : S.Ok t) (k : Int → Int → Int → Int → Int → Bool → Bool → Option DV) :
    span_truths ⟨#[101, 113]⟩ s.ln s.ld s.hn s.hd s.den s.no s.em t.ln t.ld t.hn t.hd t.den t.no t.em k = (S.deci (S.ispt s && S.ispt t && same s t) (S.ispt s && S.ispt t && !same s t)).ap k := by
  unfold span_truths B_span_truths
  simp only [lc_eq_eq, cond_false, cond_true, Bool.not_true, ispt_eq hs, ispt_eq ht]
  cases h1 : S.ispt s
  · rw [cond_false, either_eq]; rfl
  · cases h2 : S.ispt t
    · simp only [cond_true, Bool.not_false, either_eq]; rfl
    · obtain ⟨p1, p2, p3, p4⟩ := pt_of h1
      obtain ⟨q1, q2, q3, q4⟩ := pt_of h2
      simp only [cond_true, Bool.not_true, cond_false, test_eq, one_eq, zero_eq]
      refine decides (fun x y => x == y) s.ln s.ld s.hn s.hd t.ln t.ld t.hn t.hd k _ _ ?_ ?_
      · rw [p2, q1, p3, p4]; rfl
      · rw [p1, q2, q3, q4]; rfl
theorem truths_ne {s t : Sp} (hs : S.Ok s) (ht : S.Ok t) (k : Int → Int → Int → Int → Int → Bool → Bool → Option DV) :
    span_truths ⟨#[110, 101]⟩ s.ln s.ld s.hn s.hd s.den s.no s.em t.ln t.ld t.hn t.hd t.den t.no t.em k = (S.deci (S.ispt s && S.ispt t && !same s t) (S.ispt s && S.ispt t && same s t)).ap k := by
  unfold span_truths B_span_truths
  simp only [lc_ne_eq, lc_ne_ne, cond_false, cond_true, Bool.not_false, ispt_eq hs, ispt_eq ht]
  cases h1 : S.ispt s
  · rw [cond_false, either_eq]; rfl
  · cases h2 : S.ispt t
    · simp only [cond_true, Bool.not_false, either_eq]; rfl
    · obtain ⟨p1, p2, p3, p4⟩ := pt_of h1
      obtain ⟨q1, q2, q3, q4⟩ := pt_of h2
      simp only [cond_true, Bool.not_true, cond_false, test_ne, one_eq, zero_eq]
      refine decides (fun x y => x != y) s.ln s.ld s.hn s.hd t.ln t.ld t.hn t.hd k _ _ ?_ ?_
      · rw [p2, q1, p3, p4]; rfl
      · rw [p1, q2, q3, q4]
        show (true && true && same s t) = (true && true && !(!same s t))
        rw [Bool.not_not]
theorem compared_eq {s t : Sp} (hs : S.Ok s) (ht : S.Ok t) (he : s.em = false) (he' : t.em = false) (z : Bool) (k : Int → Int → Int → Int → Int → Bool → Bool → Option DV) :
    serinetteref03_compared ⟨#[101, 113]⟩ s.ln s.ld s.hn s.hd s.den s.no s.em t.ln t.ld t.hn t.hd t.den t.no t.em z k = serinetteref03_truth (S.ispt s && S.ispt t && same s t) (S.ispt s && S.ispt t && !same s t) z k := by
  unfold serinetteref03_compared B_serinetteref03_compared
  simp only [lc_eq_lt, lc_eq_le, lc_eq_eq, cond_false, cond_true, rispt_eq hs, rispt_eq ht, serinetteref01_Cmp]
  simp only [he, he', Bool.not_false, Bool.true_and]
  cases h1 : S.ispt s
  · rfl
  · cases h2 : S.ispt t
    · rfl
    · obtain ⟨p1, p2, p3, p4⟩ := pt_of h1
      obtain ⟨q1, q2, q3, q4⟩ := pt_of h2
      simp only [cond_true, cmp_num p1 q1, cmpi_eq, Bool.true_and]
      rfl
theorem compared_ne {s t : Sp} (hs : S.Ok s) (ht : S.Ok t) (he : s.em = false) (he' : t.em = false) (z : Bool) (k : Int → Int → Int → Int → Int → Bool → Bool → Option DV) :
    serinetteref03_compared ⟨#[110, 101]⟩ s.ln s.ld s.hn s.hd s.den s.no s.em t.ln t.ld t.hn t.hd t.den t.no t.em z k = serinetteref03_truth (S.ispt s && S.ispt t && !same s t) (S.ispt s && S.ispt t && same s t) z k := by
  unfold serinetteref03_compared B_serinetteref03_compared
  simp only [lc_ne_lt, lc_ne_le, lc_ne_eq, cond_false, cond_true, rispt_eq hs, rispt_eq ht, serinetteref01_Cmp]
  simp only [he, he', Bool.not_false, Bool.true_and]
  cases h1 : S.ispt s
  · rfl
  · cases h2 : S.ispt t
    · rfl
    · obtain ⟨p1, p2, p3, p4⟩ := pt_of h1
      obtain ⟨q1, q2, q3, q4⟩ := pt_of h2
      simp only [cond_true, cmp_num p1 q1, cmpi_eq, Bool.true_and]
      rfl
theorem two_eq {s t : Sp} (hs : S.Ok s) (ht : S.Ok t) (he : s.em = false) (he' : t.em = false) : TwoIs ⟨#[101, 113]⟩ s t (S.deci (S.ispt s && S.ispt t && same s t) (S.ispt s && S.ispt t && !same s t)) := by
  refine ⟨fun k => by rw [tw_eq, truths_eq hs ht], fun k => ?_, deci_em _ _⟩
  rw [rtw_eq, rcommon_eq hs.d0 hs.d1 ht.d0 ht.d1, compared_eq hs ht he he']
  refine truth_deci (fun h => ?_) _ k
  simp at h; simp [h]
theorem two_ne {s t : Sp} (hs : S.Ok s) (ht : S.Ok t) (he : s.em = false) (he' : t.em = false) : TwoIs ⟨#[110, 101]⟩ s t (S.deci (S.ispt s && S.ispt t && !same s t) (S.ispt s && S.ispt t && same s t)) := by
  refine ⟨fun k => by rw [tw_ne, truths_ne hs ht], fun k => ?_, deci_em _ _⟩
  rw [rtw_ne, rcommon_eq hs.d0 hs.d1 ht.d0 ht.d1, compared_ne hs ht he he']
  refine truth_deci (fun h => ?_) _ k
  simp at h; simp [h]
end Go.Proofs.YtnidbhfpkjggmaaGreatDoor
