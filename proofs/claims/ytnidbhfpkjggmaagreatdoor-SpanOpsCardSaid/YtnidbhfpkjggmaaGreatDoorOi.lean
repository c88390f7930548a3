/-
  Spans as plain values: sums, rests, the lesser and the greater, on both sides.
-/
import Derived.Test.YtnidbhfpkjggmaaGreatDoorOh
set_option linter.all false
namespace Go.Proofs.YtnidbhfpkjggmaaGreatDoor
open Go.Pv Go.RowKit

/-- What an operation of two in makes: one plain span, on both sides. -/
def TwoIs (op : ByteArray) (s t R : Sp) : Prop :=
  (∀ k, span_ofTwo op s.ln s.ld s.hn s.hd s.den s.no s.em t.ln t.ld t.hn t.hd t.den t.no t.em k = R.ap k) ∧
  (∀ k, serinetteref03_two op s.ln s.ld s.hn s.hd s.den s.no s.em t.ln t.ld t.hn t.hd t.den t.no t.em k = (S.orn R (s.no || t.no)).ap k) ∧ R.em = false
theorem common_bd (a b : Int) : 0 ≤ S.common a b ∧ S.common a b ≤ 1073741824 := by
  unfold S.common
  split
  · omega
  · split <;> omega
theorem rend_eq (a b : Int) (k : Int → Int → Bool → Option DV) : serinetteref03_end a b k = if Q.isq a b = true then k a b false else k 0 1 true := by
  unfold serinetteref03_end B_serinetteref03_end serinetteref01_Is
  cases Q.isq a b <;> rfl
/-- Sums of ends: numerator and denominator. -/
def pn (p q : Int × Int) : Int := p.1 * q.2 + q.1 * p.2
def pd (p q : Int × Int) : Int := p.2 * q.2
theorem valid_bd {a b : Int} (h : Q.valid (a, b) = true) : (-1073741824 ≤ a ∧ a ≤ 1073741824) ∧ (0 ≤ b ∧ b ≤ 1073741824) := by
  cases hq : Q.isq a b
  · obtain ⟨e1, e2⟩ := valid_none h hq
    omega
  · have := isq_bd hq; omega
theorem pn_bd {a b c d : Int} (h : Q.valid (a, b) = true) (h2 : Q.valid (c, d) = true) :
    (-2305843009213693952 ≤ a * d + c * b ∧ a * d + c * b ≤ 2305843009213693952) ∧ (0 ≤ b * d ∧ b * d ≤ 1152921504606846976) ∧
    (-1152921504606846976 ≤ a * d ∧ a * d ≤ 1152921504606846976) ∧ (-1152921504606846976 ≤ c * b ∧ c * b ≤ 1152921504606846976) := by
  have b1 := valid_bd h
  have b2 := valid_bd h2
  have m1 := Q.mul_bd a d (by omega) (by omega)
  have m2 := Q.mul_bd c b (by omega) (by omega)
  have m3 := Q.mul_bd b d (by omega) (by omega)
  have m4 : 0 ≤ b * d := Int.mul_nonneg (by omega) (by omega)
  omega
theorem plus_eq {a b c d : Int} (h : Q.valid (a, b) = true) (h2 : Q.valid (c, d) = true) (k : Int → Int → Option DV) : span_plus a b c d k = k (pn (a, b) (c, d)) (pd (a, b) (c, d)) := by
  have hb := pn_bd h h2
  unfold span_plus B_span_plus pn pd
  rw [IntWalk.i64_in (a * d) (by omega), IntWalk.i64_in (c * b) (by omega), IntWalk.i64_in (a * d + c * b) (by omega), IntWalk.i64_in (b * d) (by omega)]
theorem lowE_zero (n : Int) : S.lowE n 0 = (0, 0) := by unfold S.lowE; rfl
theorem upE_zero (n : Int) : S.upE n 0 = (0, 0) := by unfold S.upE; rw [lowE_zero]; rfl
/-- The specification's sum of two ends, brought outward. -/
theorem rplus_out {a b c d : Int} (h : Q.valid (a, b) = true) (h2 : Q.valid (c, d) = true) : ∃ n m o, (∀ K : Int → Int → Bool → Option DV, serinetteref03_end a b (fun r2 r3 r4 => serinetteref03_end c d (fun r5 r6 r7 => serinetteref03_plus r2 r3 r4 r5 r6 r7 K)) = K n m o) ∧
    ∀ (up : Bool) (k : Int → Int → Option DV), serinetteref03_outward n m o up k = k (if up = true then S.upE (pn (a, b) (c, d)) (pd (a, b) (c, d)) else S.lowE (pn (a, b) (c, d)) (pd (a, b) (c, d))).1 (if up = true then S.upE (pn (a, b) (c, d)) (pd (a, b) (c, d)) else S.lowE (pn (a, b) (c, d)) (pd (a, b) (c, d))).2 := by
  simp only [rend_eq]
  cases h3 : Q.isq a b
  · obtain ⟨rfl, rfl⟩ := valid_none h h3
    cases h4 : Q.isq c d
    · refine ⟨0, 1, true, fun K => rfl, fun up k => ?_⟩
      rw [routward_open]
      unfold pd
      rw [Int.zero_mul, lowE_zero, upE_zero]
      cases up <;> rfl
    · have b2 := isq_bd h4
      have e1 : IntKind.wrap .i64 ((IntKind.wrap .i64 (0 * d)) + (IntKind.wrap .i64 (c * 1))) = c := by
        rw [Int.zero_mul, Int.mul_one, IntWalk.i64_in 0 (by omega), IntWalk.i64_in c (by omega), Int.zero_add, IntWalk.i64_in c (by omega)]
      have e2 : IntKind.wrap .i64 (1 * d) = d := by rw [Int.one_mul, IntWalk.i64_in d (by omega)]
      refine ⟨c, d, true, fun K => ?_, fun up k => ?_⟩
      · simp only [Bool.false_eq_true, if_false, if_true]
        unfold serinetteref03_plus B_serinetteref03_plus
        rw [e1, e2]; rfl
      · rw [routward_open]
        unfold pd
        rw [Int.zero_mul, lowE_zero, upE_zero]
        cases up <;> rfl
  · have b1 := isq_bd h3
    cases h4 : Q.isq c d
    · obtain ⟨rfl, rfl⟩ := valid_none h2 h4
      have e1 : IntKind.wrap .i64 ((IntKind.wrap .i64 (a * 1)) + (IntKind.wrap .i64 (0 * b))) = a := by
        rw [Int.zero_mul, Int.mul_one, IntWalk.i64_in 0 (by omega), IntWalk.i64_in a (by omega), Int.add_zero, IntWalk.i64_in a (by omega)]
      have e2 : IntKind.wrap .i64 (b * 1) = b := by rw [Int.mul_one, IntWalk.i64_in b (by omega)]
      refine ⟨a, b, true, fun K => ?_, fun up k => ?_⟩
      · simp only [Bool.false_eq_true, if_false, if_true]
        unfold serinetteref03_plus B_serinetteref03_plus
        rw [e1, e2]; rfl
      · rw [routward_open]
        unfold pd
        rw [Int.mul_zero, lowE_zero, upE_zero]
        cases up <;> rfl
    · have b2 := isq_bd h4
      have hb := pn_bd h h2
      have hp : 0 < b * d := Int.mul_pos (by omega) (by omega)
      refine ⟨a * d + c * b, b * d, false, fun K => ?_, fun up k => ?_⟩
      · simp only [if_true]
        unfold serinetteref03_plus B_serinetteref03_plus
        rw [IntWalk.i64_in (a * d) (by omega), IntWalk.i64_in (c * b) (by omega), IntWalk.i64_in (a * d + c * b) (by omega), IntWalk.i64_in (b * d) (by omega)]
        rfl
      · exact routward_eq up (by omega) (by omega) k
namespace S
def sum (s t : Sp) : Sp := close (lowE (pn (s.ln, s.ld) (t.ln, t.ld)) (pd (s.ln, s.ld) (t.ln, t.ld))) (upE (pn (s.hn, s.hd) (t.hn, t.hd)) (pd (s.hn, s.hd) (t.hn, t.hd))) (common s.den t.den)
end S
theorem close_em (p q : Int × Int) (n : Int) : (S.close p q n).em = false := rfl
theorem sum_eq {s t : Sp} (hs : S.Ok s) (ht : S.Ok t) (k : Int → Int → Int → Int → Int → Bool → Bool → Option DV) : span_sum s.ln s.ld s.hn s.hd s.den s.no s.em t.ln t.ld t.hn t.hd t.den t.no t.em k = (S.sum s t).ap k := by
  have b1 := pn_bd hs.lo ht.lo
  have b2 := pn_bd hs.hi ht.hi
  have b3 := common_bd s.den t.den
  unfold span_sum B_span_sum S.sum
  simp only [plus_eq hs.lo ht.lo, plus_eq hs.hi ht.hi, common_eq hs.d0 hs.d1 ht.d0 ht.d1]
  exact closed_eq (by simp only [pn]; omega) (by simp only [pd]; omega) (by simp only [pn]; omega) (by simp only [pd]; omega) b3.1 b3.2 k
theorem rsum_eq {s t : Sp} (hs : S.Ok s) (ht : S.Ok t) (o : Bool) (k : Int → Int → Int → Int → Int → Bool → Bool → Option DV) :
    serinetteref03_Common s.den t.den (fun r1 => serinetteref03_end s.ln s.ld (fun r2 r3 r4 => serinetteref03_end t.ln t.ld (fun r5 r6 r7 => serinetteref03_plus r2 r3 r4 r5 r6 r7 (fun r8 r9 r10 => serinetteref03_end s.hn s.hd (fun r11 r12 r13 => serinetteref03_end t.hn t.hd (fun r14 r15 r16 => serinetteref03_plus r11 r12 r13 r14 r15 r16 (fun r17 r18 r19 => serinetteref03_closed r8 r9 r10 r17 r18 r19 r1 o k))))))) = (S.orn (S.sum s t) o).ap k := by
  have b3 := common_bd s.den t.den
  obtain ⟨n1, m1, o1, p1, q1⟩ := rplus_out hs.lo ht.lo
  obtain ⟨n2, m2, o2, p2, q2⟩ := rplus_out hs.hi ht.hi
  rw [rcommon_eq hs.d0 hs.d1 ht.d0 ht.d1, p1, p2]
  exact rclosed_out (fun k => q1 false k) (fun k => q2 true k) o b3.1 b3.2 k
theorem two_add {s t : Sp} (hs : S.Ok s) (ht : S.Ok t) : TwoIs ⟨#[97, 100, 100]⟩ s t (S.sum s t) :=
  ⟨fun k => by rw [tw_add, sum_eq hs ht], fun k => by rw [rtw_add, rsum_eq hs ht], close_em _ _ _⟩
theorem neg_ok {s : Sp} (h : S.Ok s) : S.Ok (S.neg s) := by
  have hm := neg_make h
  refine ⟨neg_valid h.hi, neg_valid h.lo, ?_, h.d0, h.d1⟩
  cases h0 : S.ooo (S.neg s).ln (S.neg s).ld (S.neg s).hn (S.neg s).hd
  · rfl
  · have e : S.make (Q.neg (s.hn, s.hd)).1 (Q.neg (s.hn, s.hd)).2 (Q.neg (s.ln, s.ld)).1 (Q.neg (s.ln, s.ld)).2 s.den = ⟨0, 0, 0, 0, 0, false, true⟩ := by
      unfold S.make; exact if_pos h0
    rw [e] at hm
    have : (S.neg s).em = true := by rw [← hm]
    cases this
theorem rminus_end {a b : Int} (k : Int → Int → Bool → Option DV) : serinetteref03_end a b (fun s1 s2 s3 => serinetteref03_minus s1 s2 s3 k) = serinetteref03_end (Q.neg (a, b)).1 (Q.neg (a, b)).2 k := by
  simp only [rend_eq]
  unfold Q.neg serinetteref03_minus B_serinetteref03_minus
  cases hq : Q.isq a b
  · simp only [Bool.false_eq_true, if_false, isq00]
    rw [show IntKind.wrap .i64 (0 - 0) = 0 from IntWalk.i64_in 0 (by omega)]
  · have := isq_bd hq
    simp only [if_true, Q.isq_neg, hq]
    rw [Int.zero_sub, IntWalk.i64_in (-a) (by omega)]
theorem two_sub {s t : Sp} (hs : S.Ok s) (ht : S.Ok t) : TwoIs ⟨#[115, 117, 98]⟩ s t (S.sum s (S.neg t)) := by
  have hn := neg_ok ht
  refine ⟨fun k => ?_, fun k => ?_, close_em _ _ _⟩
  · rw [tw_sub, turned_eq ht]
    exact sum_eq hs hn k
  · rw [rtw_sub]
    simp only [rminus_end]
    exact rsum_eq hs hn _ k
theorem unknown_eq (k : Int → Int → Int → Int → Int → Bool → Bool → Option DV) : serinetteref03_unknown k = S.all.ap k := by kernel_rfl
theorem orn_all (o : Bool) : S.orn S.all o = S.all := by unfold S.orn S.all; simp
theorem two_shl {s t : Sp} (hs : S.Ok s) (ht : S.Ok t) : TwoIs ⟨#[115, 104, 108]⟩ s t S.all :=
  ⟨fun k => by rw [tw_shl, all_eq], fun k => by rw [rtw_shl, rcommon_eq hs.d0 hs.d1 ht.d0 ht.d1, unknown_eq, orn_all], rfl⟩
theorem two_shr {s t : Sp} (hs : S.Ok s) (ht : S.Ok t) : TwoIs ⟨#[115, 104, 114]⟩ s t S.all :=
  ⟨fun k => by rw [tw_shr, all_eq], fun k => by rw [rtw_shr, rcommon_eq hs.d0 hs.d1 ht.d0 ht.d1, unknown_eq, orn_all], rfl⟩
end Go.Proofs.YtnidbhfpkjggmaaGreatDoor
