import Derived.Test.YtiiddikiaafanaaGreatDoorNb
import Derived.Test.YtiiddikiaafanaaGreatDoorOp
set_option linter.all false
/-
  What comes of numbers of the spans is in the told one: the operations of one in; min, max; the tests.
-/
namespace Go.Proofs.YtiiddikiaafanaaGreatDoor
open Go.Pv Go.RowKit

namespace S
theorem orn_num {s : Sp} {a b : Int} {o : Bool} (h : Q.isq a b = true) : has (orn s o) a b = has s a b := by
  unfold has orn
  rw [h]; rfl
theorem orn_none {s : Sp} {a b : Int} {o : Bool} (h : Q.isq a b = false) : has (orn s o) a b = (s.no || o) := has_none h
end S
theorem neg_pair {a b : Int} : Q.neg (a, b) = if Q.isq a b = true then (-a, b) else (0, 0) := rfl
theorem neg_holds {s : Sp} {a b : Int} (h : S.has s a b = true) : S.has (S.orn (S.neg s) s.no) (Q.neg (a, b)).1 (Q.neg (a, b)).2 = true := by
  cases hq : Q.isq a b
  · rw [S.has_none hq] at h
    rw [neg_pair, hq, if_neg (by decide), S.orn_none isq00, h, Bool.or_true]
  · rw [S.has_iff hq] at h
    obtain ⟨h1, h2, h3, h4⟩ := h
    have hn : Q.isq (-a) b = true := by rw [Q.isq_neg]; exact hq
    rw [neg_pair, hq, if_pos rfl, S.orn_num hn, S.has_iff hn]
    refine ⟨rfl, ?_, ?_, h4⟩
    · show Q.isq (Q.neg (s.hn, s.hd)).1 (Q.neg (s.hn, s.hd)).2 = true → (Q.neg (s.hn, s.hd)).1 * b ≤ -a * (Q.neg (s.hn, s.hd)).2
      rw [neg_pair]
      cases hh : Q.isq s.hn s.hd
      · rw [if_neg (by decide)]; intro x; simp [isq00] at x
      · rw [if_pos rfl]; intro _
        have := h3 hh
        show -s.hn * b ≤ -a * s.hd
        rw [Int.neg_mul, Int.neg_mul]; omega
    · show Q.isq (Q.neg (s.ln, s.ld)).1 (Q.neg (s.ln, s.ld)).2 = true → -a * (Q.neg (s.ln, s.ld)).2 ≤ (Q.neg (s.ln, s.ld)).1 * b
      rw [neg_pair]
      cases hh : Q.isq s.ln s.ld
      · rw [if_neg (by decide)]; intro x; simp [isq00] at x
      · rw [if_pos rfl]; intro _
        have := h2 hh
        show -a * s.ld ≤ -s.ln * b
        rw [Int.neg_mul, Int.neg_mul]; omega
/-- A whole number of each end, in order. -/
theorem whole_holds {s : Sp} {a b : Int} (g : Int × Int → Int × Int) (f : Int → Int → Int) (hg : ∀ x y, Q.isq x y = true → g (x, y) = (f x y, 1) ∧ Q.isq (f x y) 1 = true) (hg0 : ∀ x y, Q.isq x y = false → g (x, y) = (0, 0)) (hm : ∀ a b c d, 0 < b → 0 < d → a * d ≤ c * b → f a b ≤ f c d)
    (h : S.has s a b = true) : S.has (S.orn ⟨(g (s.ln, s.ld)).1, (g (s.ln, s.ld)).2, (g (s.hn, s.hd)).1, (g (s.hn, s.hd)).2, 1, false, false⟩ s.no) (g (a, b)).1 (g (a, b)).2 = true := by
  cases hq : Q.isq a b
  · rw [S.has_none hq] at h
    rw [hg0 a b hq, S.orn_none isq00, h, Bool.or_true]
  · rw [S.has_iff hq] at h
    obtain ⟨h1, h2, h3, h4⟩ := h
    obtain ⟨e, hn⟩ := hg a b hq
    rw [e, S.orn_num hn, S.has_iff hn]
    refine ⟨rfl, ?_, ?_, Int.dvd_refl 1⟩
    · cases hh : Q.isq s.ln s.ld
      · rw [hg0 _ _ hh]; intro x; simp [isq00] at x
      · rw [(hg _ _ hh).1]; intro _
        have := hm _ _ _ _ (isq_den hh) (isq_den hq) (h2 hh)
        show f s.ln s.ld * 1 ≤ f a b * 1
        omega
    · cases hh : Q.isq s.hn s.hd
      · rw [hg0 _ _ hh]; intro x; simp [isq00] at x
      · rw [(hg _ _ hh).1]; intro _
        have := hm _ _ _ _ (isq_den hq) (isq_den hh) (h3 hh)
        show f a b * 1 ≤ f s.hn s.hd * 1
        omega
theorem floor_holds {s : Sp} {a b : Int} (h : S.has s a b = true) : S.has (S.orn ⟨(Q.floor (s.ln, s.ld)).1, (Q.floor (s.ln, s.ld)).2, (Q.floor (s.hn, s.hd)).1, (Q.floor (s.hn, s.hd)).2, 1, false, false⟩ s.no) (Q.floor (a, b)).1 (Q.floor (a, b)).2 = true :=
  whole_holds Q.floor (fun a b => a / b) (fun x y hq => ⟨(Q.floor_val (a := (x, y)) hq).1, (Q.floor_val (a := (x, y)) hq).2⟩) (fun x y hq => by unfold Q.floor; rw [if_neg (by simp [hq])]) (fun _ _ _ _ => ediv_mono) h
theorem round_holds {s : Sp} {a b : Int} (h : S.has s a b = true) : S.has (S.orn ⟨(Q.round (s.ln, s.ld)).1, (Q.round (s.ln, s.ld)).2, (Q.round (s.hn, s.hd)).1, (Q.round (s.hn, s.hd)).2, 1, false, false⟩ s.no) (Q.round (a, b)).1 (Q.round (a, b)).2 = true :=
  whole_holds Q.round Q.up (fun x y hq => by unfold Q.round; rw [if_pos hq]; exact ⟨mk1_val (up_lim hq), isq1 (up_lim hq)⟩) (fun x y hq => by unfold Q.round; rw [if_neg (by simp [hq])]) (fun _ _ _ _ => up_mono) h
theorem frac_holds {s : Sp} {a b : Int} (h : S.has s a b = true) : S.has (S.orn (S.frac s) s.no) (Q.frac (a, b)).1 (Q.frac (a, b)).2 = true := by
  cases hq : Q.isq a b
  · rw [S.has_none hq] at h
    have e : Q.frac (a, b) = (0, 0) := by unfold Q.frac Q.sub Q.both; rw [if_neg (by simp [hq])]
    rw [e, S.orn_none isq00, h, Bool.or_true]
  · rw [S.has_iff hq] at h
    obtain ⟨h1, h2, h3, h4⟩ := h
    obtain ⟨e, hn⟩ := Q.frac_val (a := (a, b)) hq
    have hb := isq_den hq
    have m0 := Int.emod_nonneg a (show b ≠ 0 by omega)
    have m1 := Int.emod_lt_of_pos a hb
    rw [e, S.orn_num hn, S.has_iff hn]
    unfold S.frac
    split
    · rename_i hd
      rw [hd] at h4
      have b1 : b = 1 := by have := Int.le_of_dvd (by decide) h4; omega
      subst b1
      have a0 : a % 1 = 0 := by omega
      exact ⟨rfl, fun _ => by show (0 : Int) * 1 ≤ a % 1 * 1; omega, fun _ => by show a % 1 * 1 ≤ 0 * 1; omega, Int.dvd_refl 1⟩
    · exact ⟨rfl, fun _ => by show (0 : Int) * b ≤ a % b * 1; omega, fun _ => by show a % b * 1 ≤ 1 * b; omega, h4⟩
/-- A truth is among these. -/
theorem any_truth (x o : Bool) : S.has (S.orn ⟨0, 1, 1, 1, 1, false, false⟩ o) (if x = true then 1 else 0) 1 = true := by cases x <;> cases o <;> decide
theorem two_truth (x o : Bool) : S.has (S.orn (S.two x) o) (if x = true then 1 else 0) 1 = true := by cases x <;> cases o <;> decide
theorem zero_num {a b : Int} (h : Q.isq a b = true) (ha : a = 0) : b = 1 := by
  subst ha
  have := (Q.isq_iff _ _).1 h
  simp at this
  omega
theorem not_holds {s : Sp} {a b : Int} (hs : S.Ok s) (hq : Q.isq a b = true) (h : S.has s a b = true) : S.has (S.orn (S.not s) s.no) (if a = 0 then 1 else 0) 1 = true := by
  have hh := (S.has_iff hq).1 h
  unfold S.not
  split
  · rename_i hz
    unfold S.iszero at hz
    rw [Bool.and_eq_true, beq_iff_eq] at hz
    obtain ⟨p1, p2, p3, p4⟩ := pt_of hz.1
    have l := hh.2.1 p1
    have u := hh.2.2.1 p2
    have hd := isq_den p1
    rw [hz.2] at l
    rw [p3, p4, hz.2] at u
    have a0 : a = 0 := by
      have u2 : a * s.ld ≤ 0 := by simpa using u
      have l2 : 0 ≤ a * s.ld := by simpa using l
      have : a * s.ld = 0 := by omega
      rcases Int.mul_eq_zero.1 this with h | h <;> omega
    rw [if_pos a0]
    exact two_truth true _
  · split
    · by_cases a0 : a = 0
      · rw [if_pos a0]; exact any_truth true _
      · rw [if_neg a0]; exact any_truth false _
    · rename_i h0
      by_cases a0 : a = 0
      · exfalso
        have := zero_num hq a0
        subst a0; subst this
        exact h0 h
      · rw [if_neg a0]; exact two_truth false _
end Go.Proofs.YtiiddikiaafanaaGreatDoor

/-
  What comes of numbers of the spans is in the told one: abs; min, max; the tests.
-/
namespace Go.Proofs.YtiiddikiaafanaaGreatDoor
open Go.Pv Go.RowKit

theorem lt_trans3 {a b c d e f : Int} (hb : 0 < b) (hd : 0 < d) (hf : 0 < f) (h1 : a * d ≤ c * b) (h2 : c * f < e * d) : a * f < e * b := by
  apply Int.lt_of_mul_lt_mul_right _ (Int.le_of_lt hd)
  have h3 := Int.mul_le_mul_of_nonneg_right h1 (Int.le_of_lt hf)
  have h4 := Int.mul_lt_mul_of_pos_right h2 hb
  have e1 : a * d * f = a * f * d := Int.mul_right_comm _ _ _
  have e2 : c * b * f = c * f * b := Int.mul_right_comm _ _ _
  have e3 : e * d * b = e * b * d := Int.mul_right_comm _ _ _
  omega
theorem lt_trans4 {a b c d e f : Int} (hb : 0 < b) (hd : 0 < d) (hf : 0 < f) (h1 : a * d < c * b) (h2 : c * f ≤ e * d) : a * f < e * b := by
  apply Int.lt_of_mul_lt_mul_right _ (Int.le_of_lt hd)
  have h3 := Int.mul_lt_mul_of_pos_right h1 hf
  have h4 := Int.mul_le_mul_of_nonneg_right h2 (Int.le_of_lt hb)
  have e1 : a * d * f = a * f * d := Int.mul_right_comm _ _ _
  have e2 : c * b * f = c * f * b := Int.mul_right_comm _ _ _
  have e3 : e * d * b = e * b * d := Int.mul_right_comm _ _ _
  omega
theorem no_both {s t : Sp} {a b c d : Int} (h : S.has s a b = true) (h' : S.has t c d = true) (hb : Q.both (a, b) (c, d) = false) : (s.no || t.no) = true := by
  unfold Q.both at hb
  cases h1 : Q.isq a b
  · rw [S.has_none h1] at h; rw [h]; rfl
  · cases h2 : Q.isq c d
    · rw [S.has_none h2] at h'; rw [h', Bool.or_true]
    · simp [h1, h2] at hb
theorem min_holds {s t : Sp} {a b c d : Int} (h : S.has s a b = true) (h' : S.has t c d = true) : S.has (S.orn (S.lesser s t) (s.no || t.no)) (Q.min (a, b) (c, d)).1 (Q.min (a, b) (c, d)).2 = true := by
  cases hb : Q.both (a, b) (c, d)
  · rw [min_none hb, S.orn_none isq00, no_both h h' hb, Bool.or_true]
  · obtain ⟨q1, q2⟩ := (Q.both_iff _ _).1 hb
    obtain ⟨h1, h2, h3, h4⟩ := (S.has_iff q1).1 h
    obtain ⟨g1, g2, g3, g4⟩ := (S.has_iff q2).1 h'
    have p1 := isq_den q1
    have p2 := isq_den q2
    rcases min_pick q1 q2 with ⟨e, o⟩ | ⟨e, o⟩
    · rw [e, S.orn_num q1, S.has_iff q1]
      refine ⟨rfl, fun g => ?_, ?_, S.common_dvd h4⟩
      · obtain ⟨a1, a2, a3, -, -⟩ := S.min_num g
        exact le_trans3 (isq_den g) (isq_den a1) p1 a3 (h2 a1)
      · exact S.give_min_ge (p := (s.hn, s.hd)) (q := (t.hn, t.hd)) q1 h3 fun x => le_trans3 p1 p2 (isq_den x) o (g3 x)
    · rw [e, S.orn_num q2, S.has_iff q2]
      refine ⟨rfl, fun g => ?_, ?_, S.common_dvd' g4⟩
      · obtain ⟨a1, a2, -, a3, -⟩ := S.min_num g
        exact le_trans3 (isq_den g) (isq_den a2) p2 a3 (g2 a2)
      · exact S.give_min_ge (p := (s.hn, s.hd)) (q := (t.hn, t.hd)) q2 (fun x => le_trans3 p2 p1 (isq_den x) o (h3 x)) g3
theorem max_holds {s t : Sp} {a b c d : Int} (h : S.has s a b = true) (h' : S.has t c d = true) : S.has (S.orn (S.greater s t) (s.no || t.no)) (Q.max (a, b) (c, d)).1 (Q.max (a, b) (c, d)).2 = true := by
  cases hb : Q.both (a, b) (c, d)
  · rw [max_none hb, S.orn_none isq00, no_both h h' hb, Bool.or_true]
  · obtain ⟨q1, q2⟩ := (Q.both_iff _ _).1 hb
    obtain ⟨h1, h2, h3, h4⟩ := (S.has_iff q1).1 h
    obtain ⟨g1, g2, g3, g4⟩ := (S.has_iff q2).1 h'
    have p1 := isq_den q1
    have p2 := isq_den q2
    rcases max_pick q1 q2 with ⟨e, o⟩ | ⟨e, o⟩
    · rw [e, S.orn_num q1, S.has_iff q1]
      refine ⟨rfl, ?_, fun g => ?_, S.common_dvd h4⟩
      · exact S.give_max_le (p := (s.ln, s.ld)) (q := (t.ln, t.ld)) q1 h2 fun x => le_trans3 (isq_den x) p2 p1 (g2 x) o
      · obtain ⟨a1, a2, a3, -, -⟩ := S.max_num g
        exact le_trans3 p1 (isq_den a1) (isq_den g) (h3 a1) a3
    · rw [e, S.orn_num q2, S.has_iff q2]
      refine ⟨rfl, ?_, fun g => ?_, S.common_dvd' g4⟩
      · exact S.give_max_le (p := (s.ln, s.ld)) (q := (t.ln, t.ld)) q2 (fun x => le_trans3 (isq_den x) p1 p2 (h2 x) o) g2
      · obtain ⟨a1, a2, -, a3, -⟩ := S.max_num g
        exact le_trans3 p2 (isq_den a2) (isq_den g) (g3 a2) a3
theorem deci_holds (x : Bool) {y n : Bool} (o : Bool) (hy : y = true → x = true) (hn : n = true → x = false) : S.has (S.orn (S.deci y n) o) (if x = true then 1 else 0) 1 = true := by
  unfold S.deci
  cases y
  · cases n
    · exact any_truth x o
    · rw [hn rfl]; exact two_truth false o
  · rw [hy rfl]; exact two_truth true o
theorem tq_val (f : Int → Int → Bool) {a b c d : Int} (h : Q.both (a, b) (c, d) = true) : tq f (a, b) (c, d) = (if f (a * d) (c * b) = true then 1 else 0, 1) := by
  unfold tq
  rw [if_pos h]
  cases f (a * d) (c * b)
  · exact truth0
  · exact truth1
theorem test_holds (f : Int → Int → Bool) {s t : Sp} {a b c d : Int} {y n : Bool} (h : S.has s a b = true) (h' : S.has t c d = true) (hy : Q.both (a, b) (c, d) = true → y = true → f (a * d) (c * b) = true) (hn : Q.both (a, b) (c, d) = true → n = true → f (a * d) (c * b) = false) :
    S.has (S.orn (S.deci y n) (s.no || t.no)) (tq f (a, b) (c, d)).1 (tq f (a, b) (c, d)).2 = true := by
  cases hb : Q.both (a, b) (c, d)
  · have e : tq f (a, b) (c, d) = (0, 0) := by unfold tq; rw [if_neg (by simp [hb])]
    rw [e, S.orn_none isq00, no_both h h' hb, Bool.or_true]
  · rw [tq_val f hb]
    exact deci_holds _ _ (hy hb) (hn hb)
theorem lt_holds {s t : Sp} {a b c d : Int} (h : S.has s a b = true) (h' : S.has t c d = true) :
    S.has (S.orn (S.deci (Q.isq s.hn s.hd && Q.isq t.ln t.ld && decide (s.hn * t.ld < t.ln * s.hd)) (Q.isq s.ln s.ld && Q.isq t.hn t.hd && decide (t.hn * s.ld ≤ s.ln * t.hd))) (s.no || t.no)) (tq (fun x y => decide (x < y)) (a, b) (c, d)).1 (tq (fun x y => decide (x < y)) (a, b) (c, d)).2 = true := by
  refine test_holds _ h h' (fun hb hy => ?_) (fun hb hn => ?_)
  · obtain ⟨q1, q2⟩ := (Q.both_iff _ _).1 hb
    obtain ⟨h1, h2, h3, h4⟩ := (S.has_iff q1).1 h
    obtain ⟨g1, g2, g3, g4⟩ := (S.has_iff q2).1 h'
    simp only [Bool.and_eq_true, decide_eq_true_eq] at hy
    obtain ⟨⟨y1, y2⟩, y3⟩ := hy
    exact decide_eq_true (lt_trans4 (isq_den q1) (isq_den y2) (isq_den q2) (lt_trans3 (isq_den q1) (isq_den y1) (isq_den y2) (h3 y1) y3) (g2 y2))
  · obtain ⟨q1, q2⟩ := (Q.both_iff _ _).1 hb
    obtain ⟨h1, h2, h3, h4⟩ := (S.has_iff q1).1 h
    obtain ⟨g1, g2, g3, g4⟩ := (S.has_iff q2).1 h'
    simp only [Bool.and_eq_true, decide_eq_true_eq] at hn
    obtain ⟨⟨y1, y2⟩, y3⟩ := hn
    have := le_trans3 (isq_den q2) (isq_den y1) (isq_den q1) (le_trans3 (isq_den q2) (isq_den y2) (isq_den y1) (g3 y2) y3) (h2 y1)
    exact decide_eq_false (by show ¬ _; simp only at this ⊢; omega)
theorem le_holds {s t : Sp} {a b c d : Int} (h : S.has s a b = true) (h' : S.has t c d = true) :
    S.has (S.orn (S.deci (Q.isq s.hn s.hd && Q.isq t.ln t.ld && decide (s.hn * t.ld ≤ t.ln * s.hd)) (Q.isq s.ln s.ld && Q.isq t.hn t.hd && decide (t.hn * s.ld < s.ln * t.hd))) (s.no || t.no)) (tq (fun x y => decide (x ≤ y)) (a, b) (c, d)).1 (tq (fun x y => decide (x ≤ y)) (a, b) (c, d)).2 = true := by
  refine test_holds _ h h' (fun hb hy => ?_) (fun hb hn => ?_)
  · obtain ⟨q1, q2⟩ := (Q.both_iff _ _).1 hb
    obtain ⟨h1, h2, h3, h4⟩ := (S.has_iff q1).1 h
    obtain ⟨g1, g2, g3, g4⟩ := (S.has_iff q2).1 h'
    simp only [Bool.and_eq_true, decide_eq_true_eq] at hy
    obtain ⟨⟨y1, y2⟩, y3⟩ := hy
    exact decide_eq_true (le_trans3 (isq_den q1) (isq_den y2) (isq_den q2) (le_trans3 (isq_den q1) (isq_den y1) (isq_den y2) (h3 y1) y3) (g2 y2))
  · obtain ⟨q1, q2⟩ := (Q.both_iff _ _).1 hb
    obtain ⟨h1, h2, h3, h4⟩ := (S.has_iff q1).1 h
    obtain ⟨g1, g2, g3, g4⟩ := (S.has_iff q2).1 h'
    simp only [Bool.and_eq_true, decide_eq_true_eq] at hn
    obtain ⟨⟨y1, y2⟩, y3⟩ := hn
    have := lt_trans4 (isq_den q2) (isq_den y1) (isq_den q1) (lt_trans3 (isq_den q2) (isq_den y2) (isq_den y1) (g3 y2) y3) (h2 y1)
    exact decide_eq_false (by show ¬ _; simp only at this ⊢; omega)
theorem pt_at {s : Sp} {a b : Int} (hq : Q.isq a b = true) (h : S.has s a b = true) (hp : S.ispt s = true) : a * s.ld = s.ln * b ∧ 0 < s.ld := by
  obtain ⟨p1, p2, p3, p4⟩ := pt_of hp
  obtain ⟨h1, h2, h3, h4⟩ := (S.has_iff hq).1 h
  have l := h2 p1
  have u := h3 p2
  rw [p3, p4] at u
  exact ⟨by omega, isq_den p1⟩
theorem mmmc (a b c d : Int) : a * b * (c * d) = a * c * (b * d) := by rw [Int.mul_assoc, Int.mul_assoc, Int.mul_left_comm b c d]
theorem same_iff {a b c d p q p' q' : Int} (hb : 0 < b) (hd : 0 < d) (hq : 0 < q) (hq' : 0 < q') (h1 : a * q = p * b) (h2 : c * q' = p' * d) : p * q' = p' * q ↔ a * d = c * b := by
  have e1 : a * d * (q * q') = p * q' * (b * d) := by
    calc a * d * (q * q') = a * q * (d * q') := by rw [mmmc]
      _ = p * b * (d * q') := by rw [h1]
      _ = p * q' * (b * d) := by rw [Int.mul_comm d q', mmmc]
  have e2 : c * b * (q * q') = p' * q * (b * d) := by
    calc c * b * (q * q') = c * q' * (b * q) := by rw [Int.mul_comm q q', mmmc]
      _ = p' * d * (b * q) := by rw [h2]
      _ = p' * q * (b * d) := by rw [Int.mul_comm b q, mmmc, Int.mul_comm d b]
  have hbd : b * d ≠ 0 := by have := Int.mul_pos hb hd; omega
  have hqq : q * q' ≠ 0 := by have := Int.mul_pos hq hq'; omega
  constructor
  · intro h
    exact Int.eq_of_mul_eq_mul_right hqq (by rw [e1, e2, h])
  · intro h
    exact Int.eq_of_mul_eq_mul_right hbd (by rw [← e1, ← e2, h])
theorem eq_holds {s t : Sp} {a b c d : Int} (h : S.has s a b = true) (h' : S.has t c d = true) :
    S.has (S.orn (S.deci (S.ispt s && S.ispt t && same s t) (S.ispt s && S.ispt t && !same s t)) (s.no || t.no)) (tq (fun x y => x == y) (a, b) (c, d)).1 (tq (fun x y => x == y) (a, b) (c, d)).2 = true := by
  refine test_holds _ h h' (fun hb hy => ?_) (fun hb hn => ?_)
  · obtain ⟨q1, q2⟩ := (Q.both_iff _ _).1 hb
    simp only [Bool.and_eq_true] at hy
    obtain ⟨⟨y1, y2⟩, y3⟩ := hy
    obtain ⟨i1, i2⟩ := pt_at q1 h y1
    obtain ⟨j1, j2⟩ := pt_at q2 h' y2
    have := (same_iff (isq_den q1) (isq_den q2) i2 j2 i1 j1).1 (by simpa [same] using y3)
    simpa using this
  · obtain ⟨q1, q2⟩ := (Q.both_iff _ _).1 hb
    simp only [Bool.and_eq_true] at hn
    obtain ⟨⟨y1, y2⟩, y3⟩ := hn
    obtain ⟨i1, i2⟩ := pt_at q1 h y1
    obtain ⟨j1, j2⟩ := pt_at q2 h' y2
    have := mt (same_iff (isq_den q1) (isq_den q2) i2 j2 i1 j1).2 (by simpa [same] using y3)
    simpa using this
theorem ne_holds {s t : Sp} {a b c d : Int} (h : S.has s a b = true) (h' : S.has t c d = true) :
    S.has (S.orn (S.deci (S.ispt s && S.ispt t && !same s t) (S.ispt s && S.ispt t && same s t)) (s.no || t.no)) (tq (fun x y => x != y) (a, b) (c, d)).1 (tq (fun x y => x != y) (a, b) (c, d)).2 = true := by
  refine test_holds _ h h' (fun hb hy => ?_) (fun hb hn => ?_)
  · obtain ⟨q1, q2⟩ := (Q.both_iff _ _).1 hb
    simp only [Bool.and_eq_true] at hy
    obtain ⟨⟨y1, y2⟩, y3⟩ := hy
    obtain ⟨i1, i2⟩ := pt_at q1 h y1
    obtain ⟨j1, j2⟩ := pt_at q2 h' y2
    have := mt (same_iff (isq_den q1) (isq_den q2) i2 j2 i1 j1).2 (by simpa [same] using y3)
    simpa using this
  · obtain ⟨q1, q2⟩ := (Q.both_iff _ _).1 hb
    simp only [Bool.and_eq_true] at hn
    obtain ⟨⟨y1, y2⟩, y3⟩ := hn
    obtain ⟨i1, i2⟩ := pt_at q1 h y1
    obtain ⟨j1, j2⟩ := pt_at q2 h' y2
    have := (same_iff (isq_den q1) (isq_den q2) i2 j2 i1 j1).1 (by simpa [same] using y3)
    simpa using this
end Go.Proofs.YtiiddikiaafanaaGreatDoor

/-
  What comes of numbers of the spans is in the told one: sums and differences; what is closed outward holds.
-/
namespace Go.Proofs.YtiiddikiaafanaaGreatDoor
open Go.Pv Go.RowKit

theorem lowE_le {X Y : Int} (hY : 0 ≤ Y) (h : Q.isq (S.lowE X Y).1 (S.lowE X Y).2 = true) : 0 < Y ∧ (S.lowE X Y).1 * Y ≤ X * (S.lowE X Y).2 := by
  by_cases h0 : Y = 0
  · subst h0; rw [lowE_zero] at h; simp [isq00] at h
  · have hp : 0 < Y := by omega
    obtain ⟨g, p, q, L⟩ := low_of X Y hp
    rw [lowE_eq L hp] at h ⊢
    refine ⟨hp, ?_⟩
    have hg := L.gp
    have hq := L.q1
    cases hh : Q.isq p q
    · rw [hh] at h
      rw [if_neg (by decide)] at h ⊢
      by_cases hb : p / q ≥ 1073741824
      · rw [if_pos hb] at h; simp [isq00] at h
      · rw [if_neg hb] at h ⊢
        by_cases hr : -1073741824 ≤ p / q ∧ p / q ≤ 1073741824
        · rw [mk1_val hr]
          show p / q * Y ≤ X * 1
          rw [L.en, L.ed, Int.mul_one, Int.mul_left_comm]
          exact Int.mul_le_mul_of_nonneg_left (Int.ediv_mul_le p (by omega)) (by omega)
        · rw [mk1_none (by omega)] at h; simp [isq00] at h
    · rw [if_pos rfl]
      show p * Y ≤ X * q
      rw [L.en, L.ed, Int.mul_left_comm, Int.mul_assoc]
      exact Int.le_refl _
theorem upE_ge {Z W : Int} (hW : 0 ≤ W) (h : Q.isq (S.upE Z W).1 (S.upE Z W).2 = true) : 0 < W ∧ Z * (S.upE Z W).2 ≤ (S.upE Z W).1 * W := by
  unfold S.upE at *
  have e : Q.neg (S.lowE (-Z) W) = if Q.isq (S.lowE (-Z) W).1 (S.lowE (-Z) W).2 = true then (-(S.lowE (-Z) W).1, (S.lowE (-Z) W).2) else (0, 0) := rfl
  rw [e] at h ⊢
  cases hl : Q.isq (S.lowE (-Z) W).1 (S.lowE (-Z) W).2
  · rw [hl, if_neg (by decide)] at h; simp [isq00] at h
  · rw [if_pos rfl]
    obtain ⟨a, b⟩ := lowE_le hW hl
    refine ⟨a, ?_⟩
    show Z * (S.lowE (-Z) W).2 ≤ -(S.lowE (-Z) W).1 * W
    rw [Int.neg_mul] at b ⊢
    omega
theorem close_holds {N D X Y Z W n : Int} (hD : 0 < D) (hY : 0 ≤ Y) (hW : 0 ≤ W) (lo : 0 < Y → X * D ≤ N * Y) (hi : 0 < W → N * W ≤ Z * D) (n0 : 0 ≤ n) (n1 : n ≤ 1073741824) (hn : D ∣ N * n) (o : Bool) :
    S.has (S.orn (S.close (S.lowE X Y) (S.upE Z W) n) o) (Q.mk N D).1 (Q.mk N D).2 = true := by
  obtain ⟨g, p, q, L⟩ := low_of N D hD
  have hg := L.gp
  have hq := L.q1
  have qn : q ∣ n := by
    rw [L.ed, L.en, Int.mul_assoc] at hn
    have h1 : q ∣ p * n := Int.dvd_of_mul_dvd_mul_left (by omega) hn
    have h2 : q.natAbs ∣ p.natAbs * n.natAbs := by rw [← Int.natAbs_mul]; exact Int.natAbs_dvd_natAbs.2 h1
    exact Int.natAbs_dvd_natAbs.1 (Nat.Coprime.dvd_of_dvd_mul_left (Nat.Coprime.symm L.cop) h2)
  have ND : N * q = p * D := by rw [L.en, L.ed, Int.mul_assoc, Int.mul_left_comm]
  have low : Q.isq (S.lowE X Y).1 (S.lowE X Y).2 = true → (S.lowE X Y).1 * q ≤ p * (S.lowE X Y).2 := fun h => by
    obtain ⟨a, b⟩ := lowE_le hY h
    exact le_trans3 (isq_den h) hD (by omega) (le_trans3 (isq_den h) a hD b (lo a)) (by omega)
  have upp : Q.isq (S.upE Z W).1 (S.upE Z W).2 = true → p * (S.upE Z W).2 ≤ (S.upE Z W).1 * q := fun h => by
    obtain ⟨a, b⟩ := upE_ge hW h
    exact le_trans3 (by omega) hD (isq_den h) (by omega) (le_trans3 hD a (isq_den h) (hi a) b)
  rw [L.mkq hD]
  cases hh : Q.isq p q
  · rw [if_neg (by decide), S.orn_none isq00]
    cases hc : (S.close (S.lowE X Y) (S.upE Z W) n).no
    · exfalso
      unfold S.close at hc
      simp only [Bool.or_eq_false_iff, Bool.not_eq_false', beq_eq_false_iff_ne] at hc
      obtain ⟨⟨⟨⟨c1, c2⟩, c3⟩, c4⟩, c5⟩ := hc
      have l := low c2
      have u := upp c3
      have dl := isq_den c2
      have du := isq_den c3
      unfold S.fits at c4 c5
      have f1 := of_decide_eq_true c4
      have f2 := of_decide_eq_true c5
      have qle : q ≤ n := Int.le_of_dvd (by omega) qn
      generalize (S.lowE X Y).1 = l1 at *
      generalize (S.lowE X Y).2 = l2 at *
      generalize (S.upE Z W).1 = u1 at *
      generalize (S.upE Z W).2 = u2 at *
      have hp : p ≤ 1073741824 := by
        apply Int.le_of_mul_le_mul_right _ du
        have h1 : u1 * q ≤ (u1.natAbs : Int) * q := Int.mul_le_mul_of_nonneg_right (by omega) (by omega)
        have h2 : (u1.natAbs : Int) * q ≤ (u1.natAbs : Int) * n := Int.mul_le_mul_of_nonneg_left qle (by omega)
        omega
      have hm : -1073741824 ≤ p := by
        apply Int.le_of_mul_le_mul_right _ dl
        have h1 : -((l1.natAbs : Int) * q) ≤ l1 * q := by
          rw [← Int.neg_mul]
          exact Int.mul_le_mul_of_nonneg_right (by omega) (by omega)
        have h2 : (l1.natAbs : Int) * q ≤ (l1.natAbs : Int) * n := Int.mul_le_mul_of_nonneg_left qle (by omega)
        rw [Int.neg_mul]
        omega
      have := L.num.2 ⟨hm, hp, by omega⟩
      rw [this] at hh; cases hh
    · rfl
  · rw [if_pos rfl, S.orn_num hh, S.has_iff hh]
    exact ⟨rfl, low, upp, qn⟩
theorem sum_le {a b c d p q r s : Int} (hb : 0 < b) (hd : 0 < d) (hq : 0 < q) (hs : 0 < s) (h1 : a * q ≤ p * b) (h2 : c * s ≤ r * d) : (a * d + c * b) * (q * s) ≤ (p * s + r * q) * (b * d) := by
  have e1 : a * d * (q * s) = a * q * (d * s) := mmmc _ _ _ _
  have e2 : c * b * (q * s) = c * s * (b * q) := by rw [Int.mul_comm q s]; exact mmmc _ _ _ _
  have e3 : p * s * (b * d) = p * b * (d * s) := by rw [Int.mul_comm d s]; exact mmmc _ _ _ _
  have e4 : r * q * (b * d) = r * d * (b * q) := by rw [Int.mul_comm b d, Int.mul_comm b q]; exact mmmc _ _ _ _
  have k1 := Int.mul_le_mul_of_nonneg_right h1 (Int.le_of_lt (Int.mul_pos hd hs))
  have k2 := Int.mul_le_mul_of_nonneg_right h2 (Int.le_of_lt (Int.mul_pos hb hq))
  rw [Int.add_mul, Int.add_mul]
  omega
theorem zero_or {s : Sp} (h : S.Ok s) : 0 ≤ s.ld ∧ 0 ≤ s.hd ∧ (0 < s.ld → Q.isq s.ln s.ld = true) ∧ (0 < s.hd → Q.isq s.hn s.hd = true) := by
  refine ⟨(valid_bd h.lo).2.1, (valid_bd h.hi).2.1, fun x => ?_, fun x => ?_⟩
  · cases hq : Q.isq s.ln s.ld
    · have := valid_none h.lo hq; omega
    · rfl
  · cases hq : Q.isq s.hn s.hd
    · have := valid_none h.hi hq; omega
    · rfl
theorem pos_both {x y : Int} (hx : 0 ≤ x) (hy : 0 ≤ y) (h : 0 < x * y) : 0 < x ∧ 0 < y := by
  constructor
  · apply Classical.byContradiction; intro hc
    have : x = 0 := by omega
    rw [this, Int.zero_mul] at h; omega
  · apply Classical.byContradiction; intro hc
    have : y = 0 := by omega
    rw [this, Int.mul_zero] at h; omega
theorem add_holds {s t : Sp} {a b c d : Int} (hs : S.Ok s) (ht : S.Ok t) (h : S.has s a b = true) (h' : S.has t c d = true) : S.has (S.orn (S.sum s t) (s.no || t.no)) (Q.add (a, b) (c, d)).1 (Q.add (a, b) (c, d)).2 = true := by
  cases hb : Q.both (a, b) (c, d)
  · have e : Q.add (a, b) (c, d) = (0, 0) := by unfold Q.add; rw [if_neg (by simp [hb])]
    rw [e, S.orn_none isq00, no_both h h' hb, Bool.or_true]
  · have e : Q.add (a, b) (c, d) = Q.mk (a * d + c * b) (b * d) := by unfold Q.add; rw [if_pos hb]
    rw [e]
    obtain ⟨q1, q2⟩ := (Q.both_iff _ _).1 hb
    obtain ⟨h1, h2, h3, h4⟩ := (S.has_iff q1).1 h
    obtain ⟨g1, g2, g3, g4⟩ := (S.has_iff q2).1 h'
    have p1 := isq_den q1
    have p2 := isq_den q2
    obtain ⟨z1, z2, z3, z4⟩ := zero_or hs
    obtain ⟨y1, y2, y3, y4⟩ := zero_or ht
    have cb := common_bd s.den t.den
    refine close_holds (Int.mul_pos p1 p2) (Int.mul_nonneg z1 y1) (Int.mul_nonneg z2 y2) (fun x => ?_) (fun x => ?_) cb.1 cb.2 ?_ _
    · obtain ⟨x1, x2⟩ := pos_both z1 y1 x
      exact sum_le x1 x2 p1 p2 (h2 (z3 x1)) (g2 (y3 x2))
    · obtain ⟨x1, x2⟩ := pos_both z2 y2 x
      exact sum_le p1 p2 x1 x2 (h3 (z4 x1)) (g3 (y4 x2))
    · obtain ⟨u, hu⟩ := S.common_dvd (b := t.den) h4
      obtain ⟨v, hv⟩ := S.common_dvd' (a := s.den) g4
      refine ⟨a * u + c * v, ?_⟩
      rw [Int.add_mul, Int.mul_add]
      have f1 : a * d * S.common s.den t.den = b * d * (a * u) := by
        rw [hu]
        show a * d * (b * u) = b * d * (a * u)
        rw [mmmc a d b u, mmmc b d a u, Int.mul_comm a b]
      have f2 : c * b * S.common s.den t.den = b * d * (c * v) := by
        rw [hv]
        show c * b * (d * v) = b * d * (c * v)
        rw [mmmc c b d v, Int.mul_comm b d, mmmc d b c v, Int.mul_comm c d]
      rw [f1, f2]
theorem neg_has {s : Sp} {a b : Int} (h : S.has s a b = true) (hq : Q.isq a b = true) : S.has (S.neg s) (-a) b = true := by
  have := neg_holds h
  rw [neg_pair, hq, if_pos rfl] at this
  rwa [S.orn_num (by rw [Q.isq_neg]; exact hq)] at this
theorem sub_holds {s t : Sp} {a b c d : Int} (hs : S.Ok s) (ht : S.Ok t) (h : S.has s a b = true) (h' : S.has t c d = true) : S.has (S.orn (S.sum s (S.neg t)) (s.no || t.no)) (Q.sub (a, b) (c, d)).1 (Q.sub (a, b) (c, d)).2 = true := by
  cases hb : Q.both (a, b) (c, d)
  · have e : Q.sub (a, b) (c, d) = (0, 0) := by unfold Q.sub; rw [if_neg (by simp [hb])]
    rw [e, S.orn_none isq00, no_both h h' hb, Bool.or_true]
  · obtain ⟨q1, q2⟩ := (Q.both_iff _ _).1 hb
    have q2' : Q.isq (-c) d = true := by rw [Q.isq_neg]; exact q2
    have e : Q.sub (a, b) (c, d) = Q.add (a, b) (-c, d) := by
      unfold Q.sub Q.add
      rw [if_pos hb, if_pos ((Q.both_iff _ _).2 ⟨q1, q2'⟩)]
      show Q.mk (a * d - c * b) (b * d) = Q.mk (a * d + -c * b) (b * d)
      rw [Int.neg_mul, Int.sub_eq_add_neg]
    rw [e]
    have := add_holds hs (neg_ok ht) h (neg_has h' q2)
    cases hr : Q.isq (Q.add (a, b) (-c, d)).1 (Q.add (a, b) (-c, d)).2
    · rw [S.orn_none hr] at this ⊢
      have n0 : (S.neg t).no = false := rfl
      rw [n0, Bool.or_false] at this
      revert this
      cases (S.sum s (S.neg t)).no <;> cases s.no <;> simp
    · rw [S.orn_num hr] at this ⊢
      exact this
end Go.Proofs.YtiiddikiaafanaaGreatDoor
