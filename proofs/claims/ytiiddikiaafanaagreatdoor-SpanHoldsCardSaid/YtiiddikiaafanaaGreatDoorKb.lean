import Derived.Test.YtiiddikiaafanaaGreatDoorKa
set_option linter.all false
/-
  What an operation of each name tells of spans holds what it makes of their numbers.
-/
namespace Go.Proofs.YtiiddikiaafanaaGreatDoor
open Go.Pv Go.RowKit
theorem not_num {p : Int × Int} (e : p = (0, 0)) : Q.isq p.1 p.2 = false := by rw [e]; exact isq00
theorem hold_neg {s : Sp} {a b : Int} (h : S.has (S.known s) a b = true) : H1 ⟨#[110, 101, 103]⟩ s a b :=
  h1_of in_neg np_neg (do_neg a b) h (fun hq => not_num (by unfold Q.neg; rw [if_neg (by simp [hq])])) (fun hs he hkk => ⟨S.neg _, fun k => by rw [of_neg, turned_eq hs], neg_holds h⟩)
theorem hold_abs {s : Sp} {a b : Int} (h : S.has (S.known s) a b = true) : H1 ⟨#[97, 98, 115]⟩ s a b :=
  h1_of in_abs np_abs (do_abs a b) h (fun hq => not_num (by unfold Q.abs; rw [if_neg (by simp [hq])])) (fun hs he hkk => ⟨S.abs _, fun k => by rw [of_abs, sizes_eq hs he hkk], abs_holds h⟩)
theorem hold_floor {s : Sp} {a b : Int} (h : S.has (S.known s) a b = true) : H1 ⟨#[102, 108, 111, 111, 114]⟩ s a b :=
  h1_of in_floor np_floor (do_floor a b) h (fun hq => not_num (by unfold Q.floor; rw [if_neg (by simp [hq])])) (fun hs he hkk => ⟨⟨(Q.floor ((S.known s).ln, (S.known s).ld)).1, (Q.floor ((S.known s).ln, (S.known s).ld)).2, (Q.floor ((S.known s).hn, (S.known s).hd)).1, (Q.floor ((S.known s).hn, (S.known s).hd)).2, 1, false, false⟩, fun k => by
    rw [of_floor, ← floor_make hs]
    unfold ratio_Floor
    simp only [make_eq], floor_holds h⟩)
theorem hold_round {s : Sp} {a b : Int} (h : S.has (S.known s) a b = true) : H1 ⟨#[114, 111, 117, 110, 100]⟩ s a b :=
  h1_of in_round np_round (do_round a b) h (fun hq => not_num (by unfold Q.round; rw [if_neg (by simp [hq])])) (fun hs he hkk => ⟨⟨(Q.round ((S.known s).ln, (S.known s).ld)).1, (Q.round ((S.known s).ln, (S.known s).ld)).2, (Q.round ((S.known s).hn, (S.known s).hd)).1, (Q.round ((S.known s).hn, (S.known s).hd)).2, 1, false, false⟩, fun k => by
    rw [of_round, ← round_make hs]
    unfold ratio_Round
    simp only [make_eq], round_holds h⟩)
theorem hold_frac {s : Sp} {a b : Int} (h : S.has (S.known s) a b = true) : H1 ⟨#[102, 114, 97, 99]⟩ s a b :=
  h1_of in_frac np_frac (do_frac a b) h (fun hq => not_num (by unfold Q.frac Q.sub; simp [Q.both, hq])) (fun hs he hkk => ⟨S.frac _, fun k => by rw [of_frac, rests_eq hs], frac_holds h⟩)
theorem hold_not {s : Sp} {a b : Int} (h : S.has (S.known s) a b = true) : H1 ⟨#[110, 111, 116]⟩ s a b := by
  cases hq : Q.isq a b
  · refine h1_of (v := 0) (w := 0) in_not np_not (fun k0 I F r o k => by rw [do_not, hq, Bool.not_false, cT]) h (fun _ => isq00) (fun hs he hkk => ⟨S.not _, fun k => by rw [of_not, opposites_eq hs hkk], ?_⟩)
    rw [S.has_none hq] at h
    rw [S.orn_none isq00, h, Bool.or_true]
  · refine h1_of (v := if a = 0 then 1 else 0) (w := 1) in_not np_not (fun k0 I F r o k => ?_) h (fun hc => by rw [hq] at hc; cases hc) (fun hs he hkk => ⟨S.not _, fun k => by rw [of_not, opposites_eq hs hkk], not_holds hs hq h⟩)
    rw [do_not, hq, Bool.not_true, cF]
    by_cases h0 : a = 0
    · rw [if_pos h0, beq_iff_eq.2 h0, cT]
    · rw [if_neg h0, beq_eq_false_iff_ne.2 h0, cF]
theorem hold_add {s t : Sp} {a b c d : Int} (h : S.has (S.known s) a b = true) (h' : S.has (S.known t) c d = true) : H2 ⟨#[97, 100, 100]⟩ s t a b c d :=
  h2_of in_add np_add (do_add a b c d) h h' (fun hq => not_num (by unfold Q.add; rw [if_neg (by simp [hq])])) (fun hs ht he he' => ⟨S.sum _ _, fun k => by rw [tw_add, sum_eq hs ht], add_holds hs ht h h'⟩)
theorem hold_sub {s t : Sp} {a b c d : Int} (h : S.has (S.known s) a b = true) (h' : S.has (S.known t) c d = true) : H2 ⟨#[115, 117, 98]⟩ s t a b c d :=
  h2_of in_sub np_sub (do_sub a b c d) h h' (fun hq => not_num (by unfold Q.sub; rw [if_neg (by simp [hq])])) (fun hs ht he he' => ⟨S.sum _ (S.neg _), fun k => by rw [tw_sub, turned_eq ht]; exact sum_eq hs (neg_ok ht) k, sub_holds hs ht h h'⟩)
theorem hold_mul {s t : Sp} {a b c d : Int} (h : S.has (S.known s) a b = true) (h' : S.has (S.known t) c d = true) : H2 ⟨#[109, 117, 108]⟩ s t a b c d :=
  h2_of in_mul np_mul (do_mul a b c d) h h' (fun hq => not_num (by unfold Q.mul; rw [if_neg (by simp [hq])])) (fun hs ht he he' => ⟨S.prod _ _, fun k => by rw [tw_mul]; exact prod_eq hs ht k, mul_holds hs ht h h' _ (fun hb => by rw [no_both h h' hb, Bool.or_true])⟩)
theorem hold_min {s t : Sp} {a b c d : Int} (h : S.has (S.known s) a b = true) (h' : S.has (S.known t) c d = true) : H2 ⟨#[109, 105, 110]⟩ s t a b c d :=
  h2_of in_min np_min (do_min a b c d) h h' (fun hq => not_num (by unfold Q.min; rw [if_neg (by simp [hq])])) (fun hs ht he he' => ⟨S.lesser _ _, fun k => by rw [tw_min, ← lesser_make hs ht]; unfold ratio_Min S.lesser; simp only [give_min hs.hi ht.hi, common_eq hs.d0 hs.d1 ht.d0 ht.d1, make_eq], min_holds h h'⟩)
theorem hold_max {s t : Sp} {a b c d : Int} (h : S.has (S.known s) a b = true) (h' : S.has (S.known t) c d = true) : H2 ⟨#[109, 97, 120]⟩ s t a b c d :=
  h2_of in_max np_max (do_max a b c d) h h' (fun hq => not_num (by unfold Q.max; rw [if_neg (by simp [hq])])) (fun hs ht he he' => ⟨S.greater _ _, fun k => by rw [tw_max, ← greater_make hs ht]; unfold ratio_Max S.greater; simp only [give_max hs.lo ht.lo, common_eq hs.d0 hs.d1 ht.d0 ht.d1, make_eq], max_holds h h'⟩)
theorem hold_mod {s t : Sp} {a b c d : Int} (h : S.has (S.known s) a b = true) (h' : S.has (S.known t) c d = true) : H2 ⟨#[109, 111, 100]⟩ s t a b c d :=
  h2_of in_mod np_mod (do_mod a b c d) h h' (fun hq => not_num (by unfold Q.mod; rw [if_neg (by simp [hq])])) (fun hs ht he he' => ⟨S.rest _ _, fun k => by
    generalize S.known s = s at *
    generalize S.known t = t at *
    have b3 := common_bd s.den t.den
    have bh := valid_bd ht.hi
    have hcond : decide (t.ln ≤ 0) = !(Q.isq t.ln t.ld && decide (0 < t.ln)) := by
      cases hq : Q.isq t.ln t.ld
      · obtain ⟨e, _⟩ := valid_none ht.lo hq
        rw [e]; rfl
      · by_cases h : 0 < t.ln
        · have : ¬ t.ln ≤ 0 := by omega
          simp [h, this]
        · have : t.ln ≤ 0 := by omega
          simp [h, this]
    rw [tw_mod]
    unfold span_modulo B_span_modulo S.rest
    simp only [hcond, all_eq, zero_eq, exactly_eq, common_eq hs.d0 hs.d1 ht.d0 ht.d1]
    cases (Q.isq t.ln t.ld && decide (0 < t.ln))
    · rfl
    · simp only [Bool.not_true, cond_false, if_true]
      exact closed_eq (by omega) (by omega) (by omega) (by omega) b3.1 b3.2 k, mod_holds ht h h'⟩)
theorem hold_div {s t : Sp} {a b c d : Int} (h : S.has (S.known s) a b = true) (h' : S.has (S.known t) c d = true) : H2 ⟨#[100, 105, 118]⟩ s t a b c d :=
  h2_of in_div np_div (do_div a b c d) h h' (fun hq => not_num (by unfold Q.div; simp [hq])) (fun hs ht he he' => ⟨S.quot _ _, fun k => by
    generalize S.known s = s at *
    generalize S.known t = t at *
    obtain ⟨po, pz⟩ := point_ok (Q.div (1, 1) (t.ln, t.ld))
    rw [tw_div]
    unfold span_quotient B_span_quotient S.quot ratio_Div
    simp only [ispt_eq ht, iszero_eq ht, all_eq, one_eq, point_eq]
    unfold S.iszero
    cases h1 : S.ispt t
    · simp only [Bool.not_false, Bool.not_true, cF, Bool.false_and, Bool.false_eq_true, if_false]
    · cases h2 : (t.ln == 0)
      · simp only [Bool.not_false, Bool.not_true, cF, cT, Bool.and_false, Bool.true_and, if_true]
        exact prod_eq hs po k
      · simp only [Bool.not_true, Bool.not_false, cT, Bool.and_self, Bool.and_false, Bool.false_eq_true, if_false], div_holds hs h h'⟩)
theorem tst_lt (a b c d : Int) : Q.tst [108, 116] (a, b) (c, d) = tq (fun x y => decide (x < y)) (a, b) (c, d) := by
  unfold Q.tst tq
  cases hb : Q.both (a, b) (c, d)
  · simp
  · have e : Q.cmp (a, b) (c, d) = Q.cmpi (a * d) (c * b) := by unfold Q.cmp; rw [if_pos hb]
    rw [e]
    simp only [if_true]
    generalize a * d = x
    generalize c * b = y
    by_cases h1 : x < y
    · have e1 : Q.cmpi x y = -1 := by unfold Q.cmpi; rw [if_pos h1]
      have h2 : ¬ x = y := by omega
      have h3 : x ≤ y := by omega
      rw [e1]
      simp [h1, h2, h3, beq_eq_false_iff_ne.2 h2, bne_iff_ne.2 h2]
    · by_cases h2 : y < x
      · have e1 : Q.cmpi x y = 1 := by unfold Q.cmpi; rw [if_neg h1, if_pos h2]
        have h3 : ¬ x = y := by omega
        have h4 : ¬ x ≤ y := by omega
        rw [e1]
        simp [h1, h3, h4, beq_eq_false_iff_ne.2 h3, bne_iff_ne.2 h3]
      · have e1 : Q.cmpi x y = 0 := by unfold Q.cmpi; rw [if_neg h1, if_neg h2]
        have h3 : x = y := by omega
        rw [e1]
        subst h3
        simp
theorem hold_lt {s t : Sp} {a b c d : Int} (h : S.has (S.known s) a b = true) (h' : S.has (S.known t) c d = true) : H2 ⟨#[108, 116]⟩ s t a b c d :=
  h2_of in_lt np_lt (fun k0 I F r o k => by rw [do_lt]; unfold s1_Test; rw [Y.tl, tst_lt]) h h' (fun hq => not_num (by unfold tq; rw [if_neg (by simp [hq])])) (fun hs ht he he' => ⟨_, fun k => by rw [tw_lt, truths_lt, not_lt_le], lt_holds h h'⟩)
theorem tst_le (a b c d : Int) : Q.tst [108, 101] (a, b) (c, d) = tq (fun x y => decide (x ≤ y)) (a, b) (c, d) := by
  unfold Q.tst tq
  cases hb : Q.both (a, b) (c, d)
  · simp
  · have e : Q.cmp (a, b) (c, d) = Q.cmpi (a * d) (c * b) := by unfold Q.cmp; rw [if_pos hb]
    rw [e]
    simp only [if_true]
    generalize a * d = x
    generalize c * b = y
    by_cases h1 : x < y
    · have e1 : Q.cmpi x y = -1 := by unfold Q.cmpi; rw [if_pos h1]
      have h2 : ¬ x = y := by omega
      have h3 : x ≤ y := by omega
      rw [e1]
      simp [h1, h2, h3, beq_eq_false_iff_ne.2 h2, bne_iff_ne.2 h2]
    · by_cases h2 : y < x
      · have e1 : Q.cmpi x y = 1 := by unfold Q.cmpi; rw [if_neg h1, if_pos h2]
        have h3 : ¬ x = y := by omega
        have h4 : ¬ x ≤ y := by omega
        rw [e1]
        simp [h1, h3, h4, beq_eq_false_iff_ne.2 h3, bne_iff_ne.2 h3]
      · have e1 : Q.cmpi x y = 0 := by unfold Q.cmpi; rw [if_neg h1, if_neg h2]
        have h3 : x = y := by omega
        rw [e1]
        subst h3
        simp
theorem hold_le {s t : Sp} {a b c d : Int} (h : S.has (S.known s) a b = true) (h' : S.has (S.known t) c d = true) : H2 ⟨#[108, 101]⟩ s t a b c d :=
  h2_of in_le np_le (fun k0 I F r o k => by rw [do_le]; unfold s1_Test; rw [Y.tl, tst_le]) h h' (fun hq => not_num (by unfold tq; rw [if_neg (by simp [hq])])) (fun hs ht he he' => ⟨_, fun k => by rw [tw_le, truths_le, not_le_lt], le_holds h h'⟩)
theorem tst_eq (a b c d : Int) : Q.tst [101, 113] (a, b) (c, d) = tq (fun x y => x == y) (a, b) (c, d) := by
  unfold Q.tst tq
  cases hb : Q.both (a, b) (c, d)
  · simp
  · have e : Q.cmp (a, b) (c, d) = Q.cmpi (a * d) (c * b) := by unfold Q.cmp; rw [if_pos hb]
    rw [e]
    simp only [if_true]
    generalize a * d = x
    generalize c * b = y
    by_cases h1 : x < y
    · have e1 : Q.cmpi x y = -1 := by unfold Q.cmpi; rw [if_pos h1]
      have h2 : ¬ x = y := by omega
      have h3 : x ≤ y := by omega
      rw [e1]
      simp [h1, h2, h3, beq_eq_false_iff_ne.2 h2, bne_iff_ne.2 h2]
    · by_cases h2 : y < x
      · have e1 : Q.cmpi x y = 1 := by unfold Q.cmpi; rw [if_neg h1, if_pos h2]
        have h3 : ¬ x = y := by omega
        have h4 : ¬ x ≤ y := by omega
        rw [e1]
        simp [h1, h3, h4, beq_eq_false_iff_ne.2 h3, bne_iff_ne.2 h3]
      · have e1 : Q.cmpi x y = 0 := by unfold Q.cmpi; rw [if_neg h1, if_neg h2]
        have h3 : x = y := by omega
        rw [e1]
        subst h3
        simp
theorem hold_eq {s t : Sp} {a b c d : Int} (h : S.has (S.known s) a b = true) (h' : S.has (S.known t) c d = true) : H2 ⟨#[101, 113]⟩ s t a b c d :=
  h2_of in_eq np_eq (fun k0 I F r o k => by rw [do_eq]; unfold s1_Test; rw [Y.tl, tst_eq]) h h' (fun hq => not_num (by unfold tq; rw [if_neg (by simp [hq])])) (fun hs ht he he' => ⟨_, fun k => by rw [tw_eq, truths_eq hs ht], eq_holds h h'⟩)
theorem tst_ne (a b c d : Int) : Q.tst [110, 101] (a, b) (c, d) = tq (fun x y => x != y) (a, b) (c, d) := by
  unfold Q.tst tq
  cases hb : Q.both (a, b) (c, d)
  · simp
  · have e : Q.cmp (a, b) (c, d) = Q.cmpi (a * d) (c * b) := by unfold Q.cmp; rw [if_pos hb]
    rw [e]
    simp only [if_true]
    generalize a * d = x
    generalize c * b = y
    by_cases h1 : x < y
    · have e1 : Q.cmpi x y = -1 := by unfold Q.cmpi; rw [if_pos h1]
      have h2 : ¬ x = y := by omega
      have h3 : x ≤ y := by omega
      rw [e1]
      simp [h1, h2, h3, beq_eq_false_iff_ne.2 h2, bne_iff_ne.2 h2]
    · by_cases h2 : y < x
      · have e1 : Q.cmpi x y = 1 := by unfold Q.cmpi; rw [if_neg h1, if_pos h2]
        have h3 : ¬ x = y := by omega
        have h4 : ¬ x ≤ y := by omega
        rw [e1]
        simp [h1, h3, h4, beq_eq_false_iff_ne.2 h3, bne_iff_ne.2 h3]
      · have e1 : Q.cmpi x y = 0 := by unfold Q.cmpi; rw [if_neg h1, if_neg h2]
        have h3 : x = y := by omega
        rw [e1]
        subst h3
        simp
theorem hold_ne {s t : Sp} {a b c d : Int} (h : S.has (S.known s) a b = true) (h' : S.has (S.known t) c d = true) : H2 ⟨#[110, 101]⟩ s t a b c d :=
  h2_of in_ne np_ne (fun k0 I F r o k => by rw [do_ne]; unfold s1_Test; rw [Y.tl, tst_ne]) h h' (fun hq => not_num (by unfold tq; rw [if_neg (by simp [hq])])) (fun hs ht he he' => ⟨_, fun k => by rw [tw_ne, truths_ne hs ht], ne_holds h h'⟩)
theorem hold_and {s t : Sp} {a b c d : Int} (h : S.has (S.known s) a b = true) (h' : S.has (S.known t) c d = true) : H2 ⟨#[97, 110, 100]⟩ s t a b c d :=
  h2_of in_and np_and (fun k0 I F r o k => by rw [do_and, Y.bits_eq, Y.tl]) h h' (fun hq => not_num (by unfold Q.bts; simp [hq])) (fun hs ht he he' => ⟨S.digs true _ _, fun k => by rw [tw_and, digits_prog _ true lc_and_and hs ht], and_holds h h'⟩)
theorem hold_or {s t : Sp} {a b c d : Int} (h : S.has (S.known s) a b = true) (h' : S.has (S.known t) c d = true) : H2 ⟨#[111, 114]⟩ s t a b c d :=
  h2_of in_or np_or (fun k0 I F r o k => by rw [do_or, Y.bits_eq, Y.tl]) h h' (fun hq => not_num (by unfold Q.bts; simp [hq])) (fun hs ht he he' => ⟨S.digs false _ _, fun k => by rw [tw_or, digits_prog _ false lc_or_and hs ht], or_holds h h'⟩)
theorem hold_xor {s t : Sp} {a b c d : Int} (h : S.has (S.known s) a b = true) (h' : S.has (S.known t) c d = true) : H2 ⟨#[120, 111, 114]⟩ s t a b c d :=
  h2_of in_xor np_xor (fun k0 I F r o k => by rw [do_xor, Y.bits_eq, Y.tl]) h h' (fun hq => not_num (by unfold Q.bts; simp [hq])) (fun hs ht he he' => ⟨S.digs false _ _, fun k => by rw [tw_xor, digits_prog _ false lc_xor_and hs ht], xor_holds h h'⟩)
theorem hold_shl {s t : Sp} {a b c d : Int} (h : S.has (S.known s) a b = true) (h' : S.has (S.known t) c d = true) : H2 ⟨#[115, 104, 108]⟩ s t a b c d :=
  h2_of in_shl np_shl (fun k0 I F r o k => by rw [do_shl, Y.bits_eq, Y.tl]) h h' (fun hq => not_num (by unfold Q.bts; simp [hq])) (fun hs ht he he' => ⟨S.all, fun k => by rw [tw_shl, all_eq], all_holds _ _ _⟩)
theorem hold_shr {s t : Sp} {a b c d : Int} (h : S.has (S.known s) a b = true) (h' : S.has (S.known t) c d = true) : H2 ⟨#[115, 104, 114]⟩ s t a b c d :=
  h2_of in_shr np_shr (fun k0 I F r o k => by rw [do_shr, Y.bits_eq, Y.tl]) h h' (fun hq => not_num (by unfold Q.bts; simp [hq])) (fun hs ht he he' => ⟨S.all, fun k => by rw [tw_shr, all_eq], all_holds _ _ _⟩)
end Go.Proofs.YtiiddikiaafanaaGreatDoor
