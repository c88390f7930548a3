import Derived.Test.YtiiddikiaafanaaGreatDoorOd
set_option linter.all false
/-
  Exact ends brought outward to numbers: the program's lower and upper ends, the specification's outward: the same plain function.
-/
namespace Go.Proofs.YtiiddikiaafanaaGreatDoor
open Go.Pv Go.RowKit

namespace S
/-- A lower end: the number itself, or the whole one below it, or none. -/
def lowE (n d : Int) : Int × Int :=
  if d = 0 then (0, 0) else if Q.isq (Q.mk n d).1 (Q.mk n d).2 = true then Q.mk n d else if n / d ≥ 1073741824 then (0, 0) else Q.mk (n / d) 1
def upE (n d : Int) : Int × Int := Q.neg (lowE (-n) d)
end S
/-- A fraction in lowest terms. -/
structure Low (n d g p q : Int) : Prop where
  gp : 0 < g
  gd : g = (n.natAbs.gcd d.natAbs : Nat)
  hp : n.tdiv g = p
  hq : d.tdiv g = q
  en : n = g * p
  ed : d = g * q
  q1 : 1 ≤ q
  cop : p.natAbs.gcd q.natAbs = 1
theorem low_of (n d : Int) (hd : 0 < d) : ∃ g p q, Low n d g p q := by
  refine ⟨(n.natAbs.gcd d.natAbs : Nat), n.tdiv (n.natAbs.gcd d.natAbs : Nat), d.tdiv (n.natAbs.gcd d.natAbs : Nat), ?_⟩
  have hgp : 0 < n.natAbs.gcd d.natAbs := Nat.gcd_pos_of_pos_right _ (by omega)
  have dn : ((n.natAbs.gcd d.natAbs : Nat) : Int) ∣ n := Int.ofNat_dvd_left.2 (Nat.gcd_dvd_left _ _)
  have dd : ((n.natAbs.gcd d.natAbs : Nat) : Int) ∣ d := Int.ofNat_dvd_left.2 (Nat.gcd_dvd_right _ _)
  have e1 : (n.tdiv ((n.natAbs.gcd d.natAbs : Nat) : Int)).natAbs = n.natAbs / n.natAbs.gcd d.natAbs := by rw [Int.natAbs_tdiv]; simp only [Int.natAbs_natCast]; rfl
  have e2 : (d.tdiv ((n.natAbs.gcd d.natAbs : Nat) : Int)).natAbs = d.natAbs / n.natAbs.gcd d.natAbs := by rw [Int.natAbs_tdiv]; simp only [Int.natAbs_natCast]; rfl
  have ed : d = ((n.natAbs.gcd d.natAbs : Nat) : Int) * d.tdiv ((n.natAbs.gcd d.natAbs : Nat) : Int) := (Int.mul_tdiv_cancel' dd).symm
  refine ⟨by omega, rfl, rfl, rfl, (Int.mul_tdiv_cancel' dn).symm, ed, ?_, by rw [e1, e2]; exact Q.low_cop _ _ (by omega)⟩
  apply Classical.byContradiction
  intro hc
  have : ((n.natAbs.gcd d.natAbs : Nat) : Int) * d.tdiv ((n.natAbs.gcd d.natAbs : Nat) : Int) ≤ 0 := Int.mul_nonpos_of_nonneg_of_nonpos (by omega) (by omega)
  omega
theorem Low.mkq {n d g p q : Int} (h : Low n d g p q) (hd : 0 < d) : Q.mk n d = if Q.isq p q = true then (p, q) else (0, 0) := by
  have := Q.mk_pos n d hd g h.gd
  rw [h.hp, h.hq] at this
  cases hq : Q.isq p q
  · rw [if_neg (by decide)]; exact this.2 hq
  · rw [if_pos rfl]; exact this.1 hq
theorem Low.num {n d g p q : Int} (h : Low n d g p q) : Q.isq p q = true ↔ (-1073741824 ≤ p ∧ p ≤ 1073741824 ∧ q ≤ 1073741824) := by
  rw [Q.isq_iff]
  constructor
  · rintro ⟨a, b, c, d, _⟩; exact ⟨a, b, d⟩
  · rintro ⟨a, b, c⟩; exact ⟨a, b, h.q1, c, h.cop⟩
theorem Low.ediv {n d g p q : Int} (h : Low n d g p q) : n / d = p / q := by
  rw [h.en, h.ed]; exact Int.mul_ediv_mul_of_pos _ _ h.gp
theorem Low.neg {n d g p q : Int} (h : Low n d g p q) : Low (-n) d g (-p) q :=
  ⟨h.gp, by rw [Int.natAbs_neg]; exact h.gd, by rw [Int.neg_tdiv, h.hp], h.hq, by rw [h.en, Int.mul_neg], h.ed, h.q1, by rw [Int.natAbs_neg]; exact h.cop⟩
theorem Low.bd {n d g p q : Int} (h : Low n d g p q) (hd : 0 < d) : (p.natAbs ≤ n.natAbs) ∧ q ≤ d := by
  have h1 : n.natAbs = g.natAbs * p.natAbs := by rw [h.en, Int.natAbs_mul]
  have h2 : 1 * p.natAbs ≤ g.natAbs * p.natAbs := Nat.mul_le_mul_right _ (by have := h.gp; omega)
  have h3 : 1 * q ≤ g * q := Int.mul_le_mul_of_nonneg_right (by have := h.gp; omega) (by have := h.q1; omega)
  have := h.ed
  omega
/-- A whole fraction in lowest terms is over 1. -/
theorem Low.whole {n d g p q : Int} (h : Low n d g p q) (hr : p % q = 0) : q = 1 := by
  have hd : q.natAbs ∣ p.natAbs := by
    have : q ∣ p := Int.dvd_of_emod_eq_zero hr
    exact Int.natAbs_dvd_natAbs.2 this
  have := h.cop
  rw [Nat.gcd_comm, Nat.gcd_eq_left hd] at this
  have := h.q1
  omega
theorem mk1_none {n : Int} (h : n < -1073741824 ∨ 1073741824 < n) : Q.mk n 1 = (0, 0) := by
  rw [Q.mk1, if_neg (by omega)]
/-- A number's end is itself; of others the whole part is below the greatest. -/
theorem lowE_eq {n d g p q : Int} (h : Low n d g p q) (hd : 0 < d) : S.lowE n d = if Q.isq p q = true then (p, q) else if p / q ≥ 1073741824 then (0, 0) else Q.mk (p / q) 1 := by
  unfold S.lowE
  rw [if_neg (by omega), h.mkq hd, h.ediv]
  cases hq : Q.isq p q
  · simp [isq00]
  · simp [hq]
theorem lower_eq {n d : Int} (hn : -4611686018427387904 ≤ n ∧ n ≤ 4611686018427387904) (hd : 0 ≤ d ∧ d ≤ 1152921504606846976) (k : Int → Int → Option DV) : span_end_lower n d k = k (S.lowE n d).1 (S.lowE n d).2 := by
  unfold span_end_lower B_span_end_lower ratio_Make ratio_Is span_end_isOpen B_span_end_isOpen
  have c1 : decide ((-9223372036854775808 ≤ n ∧ n ≤ 9223372036854775807) ∧ (-9223372036854775808 ≤ d ∧ d ≤ 9223372036854775807)) = true := decide_eq_true (by omega)
  simp only [c1, cond_true]
  by_cases h0 : d = 0
  · subst h0
    rw [Q.mk_zero]
    simp [isq00, S.lowE]
  · have hp : 0 < d := by omega
    obtain ⟨g, p, q, hl⟩ := low_of n d hp
    have hb := Q.tdiv_bd n d 4611686018427387904 (by omega)
    have w1 : IntKind.wrap .i64 (Int.tdiv n d) = Int.tdiv n d := IntWalk.i64_in _ (by omega)
    have w2 : IntKind.wrap .i64 (Int.tdiv n d - 1) = Int.tdiv n d - 1 := IntWalk.i64_in _ (by omega)
    have c2 : decide ((-9223372036854775808 ≤ Int.tdiv n d - 1 ∧ Int.tdiv n d - 1 ≤ 9223372036854775807) ∧ (-9223372036854775808 ≤ (1 : Int) ∧ (1 : Int) ≤ 9223372036854775807)) = true := decide_eq_true (by omega)
    have c3 : decide ((-9223372036854775808 ≤ Int.tdiv n d ∧ Int.tdiv n d ≤ 9223372036854775807) ∧ (-9223372036854775808 ≤ (1 : Int) ∧ (1 : Int) ≤ 9223372036854775807)) = true := decide_eq_true (by omega)
    have hz : (d == 0) = false := by simp [h0]
    rw [lowE_eq hl hp, hl.mkq hp]
    cases hq : Q.isq p q
    · simp only [Bool.false_eq_true, if_false, isq00, Bool.not_false, cond_true, hz, cond_false, w1, w2, c2, c3]
      have hf := Q.floor_div n d hp
      have hnum := hl.num
      rw [hl.ediv] at hf
      have hlt : ∀ x : Int, (bif decide (x ≥ 1073741824) then k 0 0 else k (Q.mk x 1).1 (Q.mk x 1).2) = k (if x ≥ 1073741824 then (0, 0) else Q.mk x 1).1 (if x ≥ 1073741824 then (0, 0) else Q.mk x 1).2 := by
        intro x
        by_cases hx : x ≥ 1073741824 <;> simp [hx]
      by_cases hneg : n < 0
      · simp only [hneg, decide_true, cond_true]
        rw [hlt]
        have ht : Int.tdiv n d ≤ 0 := by
          have : 0 ≤ Int.tdiv (-n) d := Int.tdiv_nonneg (by omega) (by omega)
          rw [Int.neg_tdiv] at this; omega
        by_cases hm : n.tmod d < 0
        · rw [if_pos hm] at hf
          rw [hf]
        · rw [if_neg hm] at hf
          -- a whole number that is none: beyond
          have hm0 : n.tmod d = 0 := by
            have : n.tmod d ≤ 0 := by
              have h9 := Int.tmod_nonneg (a := -n) d (by omega)
              rw [Int.neg_tmod] at h9; omega
            omega
          have hmod : n % d = 0 := by
            have : d ∣ n := Int.dvd_of_tmod_eq_zero hm0
            exact Int.emod_eq_zero_of_dvd this
          have hpq : p % q = 0 := by
            rw [hl.en, hl.ed, Int.mul_emod_mul_of_pos _ _ hl.gp] at hmod
            have := hl.gp
            rcases Int.mul_eq_zero.1 hmod with h' | h'
            · omega
            · exact h'
          have hq1 := hl.whole hpq
          subst hq1
          rw [Int.ediv_one] at hf ⊢
          have hbig : p < -1073741824 := by
            apply Classical.byContradiction
            intro hc
            have : Q.isq p 1 = true := hnum.2 ⟨by omega, by omega, by omega⟩
            rw [hq] at this; cases this
          rw [if_neg (by omega), if_neg (by omega), mk1_none (by omega), mk1_none (by omega)]
      · simp only [hneg, decide_false, cond_false]
        rw [hlt]
        have hm : ¬ n.tmod d < 0 := by
          have := Int.tmod_nonneg (a := n) d (by omega)
          omega
        rw [if_neg hm] at hf
        rw [hf]
    · simp [hq]
end Go.Proofs.YtiiddikiaafanaaGreatDoor

/-
  Closing of exact ends to a span: the program's and the specification's readings are the same plain function.
-/
namespace Go.Proofs.YtiiddikiaafanaaGreatDoor
open Go.Pv Go.RowKit

theorem lowE_valid {n d : Int} (hd : 0 ≤ d) : Q.valid ((S.lowE n d).1, (S.lowE n d).2) = true := by
  unfold S.lowE
  split
  · rfl
  · split
    · rename_i h; exact valid_isq h
    · split
      · rfl
      · rcases Q.mk_isq (n / d) 1 with h | h
        · rw [h]; rfl
        · exact valid_isq h
theorem upE_valid {n d : Int} (hd : 0 ≤ d) : Q.valid ((S.upE n d).1, (S.upE n d).2) = true := neg_valid (lowE_valid hd)
theorem upper_eq {n d : Int} (hn : -4611686018427387904 ≤ n ∧ n ≤ 4611686018427387904) (hd : 0 ≤ d ∧ d ≤ 1152921504606846976) (k : Int → Int → Option DV) : span_end_upper n d k = k (S.upE n d).1 (S.upE n d).2 := by
  unfold span_end_upper B_span_end_upper ratio_Neg S.upE
  have w : IntKind.wrap .i64 (0 - n) = -n := by rw [Int.zero_sub]; exact IntWalk.i64_in _ (by omega)
  rw [w]
  simp only [lower_eq (n := -n) (d := d) (by omega) hd]
end Go.Proofs.YtiiddikiaafanaaGreatDoor

/-
  Closing of exact ends to a span, on both sides.
-/
namespace Go.Proofs.YtiiddikiaafanaaGreatDoor
open Go.Pv Go.RowKit

namespace S
/-- Whether what lies between is of bounded size. -/
def fits (a : Int × Int) (n : Int) : Bool := decide ((a.1.natAbs : Int) * n ≤ 1073741824 * a.2)
def close (lo hi : Int × Int) (n : Int) : Sp :=
  ⟨lo.1, lo.2, hi.1, hi.2, n, n == 0 || !Q.isq lo.1 lo.2 || !Q.isq hi.1 hi.2 || !fits lo n || !fits hi n, false⟩
end S
theorem holds_eq {a b n : Int} (h : Q.isq a b = true) (h0 : 0 ≤ n) (h1 : n ≤ 1073741824) (k : Bool → Option DV) : span_holds a b n k = k (S.fits (a, b) n) := by
  have hb := isq_bd h
  unfold span_holds B_span_holds span_size B_span_size S.fits
  have w1 : IntKind.wrap .i64 (0 - a) = -a := by rw [Int.zero_sub]; exact IntWalk.i64_in _ (by omega)
  have e1 : (if -a > a then -a else a) = (a.natAbs : Int) := by split <;> omega
  have w2 : IntKind.wrap .u64 (a.natAbs : Int) = (a.natAbs : Int) := IntWalk.u64_in _ (by omega)
  have w3 : IntKind.wrap .u64 n = n := IntWalk.u64_in _ (by omega)
  have w4 : IntKind.wrap .u64 b = b := IntWalk.u64_in _ (by omega)
  have m1 := Q.mul_bd (a.natAbs : Int) n (by omega) (by omega)
  have m0 : 0 ≤ (a.natAbs : Int) * n := Int.mul_nonneg (by omega) h0
  have w5 : IntKind.wrap .u64 ((a.natAbs : Int) * n) = (a.natAbs : Int) * n := IntWalk.u64_in _ (by omega)
  have w6 : IntKind.wrap .u64 (1073741824 * b) = 1073741824 * b := IntWalk.u64_in _ (by omega)
  simp only [w1, e1, w2, w3, w4, w5, w6]
theorem closed_eq {a b c d n : Int} (ha : -4611686018427387904 ≤ a ∧ a ≤ 4611686018427387904) (hb : 0 ≤ b ∧ b ≤ 1152921504606846976) (hc : -4611686018427387904 ≤ c ∧ c ≤ 4611686018427387904) (hd : 0 ≤ d ∧ d ≤ 1152921504606846976) (h0 : 0 ≤ n) (h1 : n ≤ 1073741824)
    (k : Int → Int → Int → Int → Int → Bool → Bool → Option DV) : span_closed a b c d n k = (S.close (S.lowE a b) (S.upE c d) n).ap k := by
  have v1 := lowE_valid (n := a) hb.1
  have v2 := upE_valid (n := c) hd.1
  unfold span_closed B_span_closed span_isOpen B_span_isOpen S.close
  simp only [lower_eq ha hb, upper_eq hc hd, open_eq v1, open_eq v2]
  generalize S.lowE a b = p at *
  generalize S.upE c d = q at *
  obtain ⟨p1, p2⟩ := p
  obtain ⟨q1, q2⟩ := q
  simp only [Sp.ap]
  cases hn : n == 0
  · cases h2 : Q.isq p1 p2
    · simp
    · cases h3 : Q.isq q1 q2
      · simp
      · simp only [holds_eq h2 h0 h1, holds_eq h3 h0 h1]
        cases S.fits (p1, p2) n <;> cases S.fits (q1, q2) n <;> simp
  · simp
end Go.Proofs.YtiiddikiaafanaaGreatDoor

/-
  Operations of two in, one by one.
-/
namespace Go.Proofs.YtiiddikiaafanaaGreatDoor
open Go.Pv Go.RowKit
/-- Whether two texts are alike. -/
abbrev E (l m : List UInt8) : Bool := ByteArray.toList (⟨l.toArray⟩) == ByteArray.toList (⟨m.toArray⟩)
theorem lc_lt_eq : E [108, 116] [101, 113] = false := by kernel_rfl
theorem lc_lt_ne : E [108, 116] [110, 101] = false := by kernel_rfl
theorem lc_le_eq : E [108, 101] [101, 113] = false := by kernel_rfl
theorem lc_le_ne : E [108, 101] [110, 101] = false := by kernel_rfl
theorem lc_eq_eq : E [101, 113] [101, 113] = true := by kernel_rfl
theorem lc_ne_eq : E [110, 101] [101, 113] = false := by kernel_rfl
theorem lc_ne_ne : E [110, 101] [110, 101] = true := by kernel_rfl
theorem lc_and_and : E [97, 110, 100] [97, 110, 100] = true := by kernel_rfl
theorem lc_or_and : E [111, 114] [97, 110, 100] = false := by kernel_rfl
theorem lc_xor_and : E [120, 111, 114] [97, 110, 100] = false := by kernel_rfl
theorem tw_add (a b c d n : Int) (o e : Bool) (a' b' c' d' n' : Int) (o' e' : Bool) (k : Int → Int → Int → Int → Int → Bool → Bool → Option DV) : span_ofTwo ⟨#[97, 100, 100]⟩ a b c d n o e a' b' c' d' n' o' e' k = span_sum a b c d n o e a' b' c' d' n' o' e' k := by kernel_rfl
theorem tw_sub (a b c d n : Int) (o e : Bool) (a' b' c' d' n' : Int) (o' e' : Bool) (k : Int → Int → Int → Int → Int → Bool → Bool → Option DV) : span_ofTwo ⟨#[115, 117, 98]⟩ a b c d n o e a' b' c' d' n' o' e' k = span_turned a' b' c' d' n' o' e' (fun r1 r2 r3 r4 r5 r6 r7 => span_sum a b c d n o e r1 r2 r3 r4 r5 r6 r7 k) := by kernel_rfl
theorem tw_mul (a b c d n : Int) (o e : Bool) (a' b' c' d' n' : Int) (o' e' : Bool) (k : Int → Int → Int → Int → Int → Bool → Bool → Option DV) : span_ofTwo ⟨#[109, 117, 108]⟩ a b c d n o e a' b' c' d' n' o' e' k = span_product a b c d n o e a' b' c' d' n' o' e' (fun r1 r2 r3 r4 r5 r6 r7 => k r1 r2 r3 r4 r5 r6 r7) := by kernel_rfl
theorem tw_div (a b c d n : Int) (o e : Bool) (a' b' c' d' n' : Int) (o' e' : Bool) (k : Int → Int → Int → Int → Int → Bool → Bool → Option DV) : span_ofTwo ⟨#[100, 105, 118]⟩ a b c d n o e a' b' c' d' n' o' e' k = span_quotient a b c d n o e a' b' c' d' n' o' e' k := by kernel_rfl
theorem tw_mod (a b c d n : Int) (o e : Bool) (a' b' c' d' n' : Int) (o' e' : Bool) (k : Int → Int → Int → Int → Int → Bool → Bool → Option DV) : span_ofTwo ⟨#[109, 111, 100]⟩ a b c d n o e a' b' c' d' n' o' e' k = span_modulo a b c d n o e a' b' c' d' n' o' e' k := by kernel_rfl
theorem tw_min (a b c d n : Int) (o e : Bool) (a' b' c' d' n' : Int) (o' e' : Bool) (k : Int → Int → Int → Int → Int → Bool → Bool → Option DV) : span_ofTwo ⟨#[109, 105, 110]⟩ a b c d n o e a' b' c' d' n' o' e' k = ratio_Min a b a' b' (fun r1 r2 => span_givingWay_ratio_Min c d c' d' (fun r3 r4 => span_lowestCommon n n' (fun r5 => span_Make r1 r2 r3 r4 r5 k))) := by kernel_rfl
theorem tw_max (a b c d n : Int) (o e : Bool) (a' b' c' d' n' : Int) (o' e' : Bool) (k : Int → Int → Int → Int → Int → Bool → Bool → Option DV) : span_ofTwo ⟨#[109, 97, 120]⟩ a b c d n o e a' b' c' d' n' o' e' k = span_givingWay_ratio_Max a b a' b' (fun r1 r2 => ratio_Max c d c' d' (fun r3 r4 => span_lowestCommon n n' (fun r5 => span_Make r1 r2 r3 r4 r5 k))) := by kernel_rfl
theorem tw_lt (a b c d n : Int) (o e : Bool) (a' b' c' d' n' : Int) (o' e' : Bool) (k : Int → Int → Int → Int → Int → Bool → Bool → Option DV) : span_ofTwo ⟨#[108, 116]⟩ a b c d n o e a' b' c' d' n' o' e' k = span_truths ⟨#[108, 116]⟩ a b c d n o e a' b' c' d' n' o' e' k := by kernel_rfl
theorem tw_le (a b c d n : Int) (o e : Bool) (a' b' c' d' n' : Int) (o' e' : Bool) (k : Int → Int → Int → Int → Int → Bool → Bool → Option DV) : span_ofTwo ⟨#[108, 101]⟩ a b c d n o e a' b' c' d' n' o' e' k = span_truths ⟨#[108, 101]⟩ a b c d n o e a' b' c' d' n' o' e' k := by kernel_rfl
theorem tw_eq (a b c d n : Int) (o e : Bool) (a' b' c' d' n' : Int) (o' e' : Bool) (k : Int → Int → Int → Int → Int → Bool → Bool → Option DV) : span_ofTwo ⟨#[101, 113]⟩ a b c d n o e a' b' c' d' n' o' e' k = span_truths ⟨#[101, 113]⟩ a b c d n o e a' b' c' d' n' o' e' k := by kernel_rfl
theorem tw_ne (a b c d n : Int) (o e : Bool) (a' b' c' d' n' : Int) (o' e' : Bool) (k : Int → Int → Int → Int → Int → Bool → Bool → Option DV) : span_ofTwo ⟨#[110, 101]⟩ a b c d n o e a' b' c' d' n' o' e' k = span_truths ⟨#[110, 101]⟩ a b c d n o e a' b' c' d' n' o' e' k := by kernel_rfl
theorem tw_and (a b c d n : Int) (o e : Bool) (a' b' c' d' n' : Int) (o' e' : Bool) (k : Int → Int → Int → Int → Int → Bool → Bool → Option DV) : span_ofTwo ⟨#[97, 110, 100]⟩ a b c d n o e a' b' c' d' n' o' e' k = span_digits ⟨#[97, 110, 100]⟩ a b c d n o e a' b' c' d' n' o' e' k := by kernel_rfl
theorem tw_or (a b c d n : Int) (o e : Bool) (a' b' c' d' n' : Int) (o' e' : Bool) (k : Int → Int → Int → Int → Int → Bool → Bool → Option DV) : span_ofTwo ⟨#[111, 114]⟩ a b c d n o e a' b' c' d' n' o' e' k = span_digits ⟨#[111, 114]⟩ a b c d n o e a' b' c' d' n' o' e' k := by kernel_rfl
theorem tw_xor (a b c d n : Int) (o e : Bool) (a' b' c' d' n' : Int) (o' e' : Bool) (k : Int → Int → Int → Int → Int → Bool → Bool → Option DV) : span_ofTwo ⟨#[120, 111, 114]⟩ a b c d n o e a' b' c' d' n' o' e' k = span_digits ⟨#[120, 111, 114]⟩ a b c d n o e a' b' c' d' n' o' e' k := by kernel_rfl
theorem tw_shl (a b c d n : Int) (o e : Bool) (a' b' c' d' n' : Int) (o' e' : Bool) (k : Int → Int → Int → Int → Int → Bool → Bool → Option DV) : span_ofTwo ⟨#[115, 104, 108]⟩ a b c d n o e a' b' c' d' n' o' e' k = span_All k := by kernel_rfl
theorem tw_shr (a b c d n : Int) (o e : Bool) (a' b' c' d' n' : Int) (o' e' : Bool) (k : Int → Int → Int → Int → Int → Bool → Bool → Option DV) : span_ofTwo ⟨#[115, 104, 114]⟩ a b c d n o e a' b' c' d' n' o' e' k = span_All k := by kernel_rfl
end Go.Proofs.YtiiddikiaafanaaGreatDoor

/-
  Spans as plain values: sums, rests, the lesser and the greater, on both sides.
-/
namespace Go.Proofs.YtiiddikiaafanaaGreatDoor
open Go.Pv Go.RowKit

theorem common_bd (a b : Int) : 0 ≤ S.common a b ∧ S.common a b ≤ 1073741824 := by
  unfold S.common
  split
  · omega
  · split <;> omega
/-- Sums of ends: numerator and denominator. -/
def pn (p q : Int × Int) : Int := p.1 * q.2 + q.1 * p.2
def pd (p q : Int × Int) : Int := p.2 * q.2
theorem valid_bd {a b : Int} (h : Q.valid (a, b) = true) : (-1073741824 ≤ a ∧ a ≤ 1073741824) ∧ (0 ≤ b ∧ b ≤ 1073741824) := by
  cases hq : Q.isq a b
  · obtain ⟨e1, e2⟩ := valid_none h hq
    omega
  · have := isq_bd hq; omega
theorem pn_bd {a b c d : Int} (h : Q.valid (a, b) = true) (h2 : Q.valid (c, d) = true) :
    (-2305843009213693952 ≤ a * d + c * b ∧ a * d + c * b ≤ 2305843009213693952) ∧ (0 ≤ b * d ∧ b * d ≤ 1152921504606846976) ∧
    (-1152921504606846976 ≤ a * d ∧ a * d ≤ 1152921504606846976) ∧ (-1152921504606846976 ≤ c * b ∧ c * b ≤ 1152921504606846976) := by
  have b1 := valid_bd h
  have b2 := valid_bd h2
  have m1 := Q.mul_bd a d (by omega) (by omega)
  have m2 := Q.mul_bd c b (by omega) (by omega)
  have m3 := Q.mul_bd b d (by omega) (by omega)
  have m4 : 0 ≤ b * d := Int.mul_nonneg (by omega) (by omega)
  omega
theorem plus_eq {a b c d : Int} (h : Q.valid (a, b) = true) (h2 : Q.valid (c, d) = true) (k : Int → Int → Option DV) : span_plus a b c d k = k (pn (a, b) (c, d)) (pd (a, b) (c, d)) := by
  have hb := pn_bd h h2
  unfold span_plus B_span_plus pn pd
  rw [IntWalk.i64_in (a * d) (by omega), IntWalk.i64_in (c * b) (by omega), IntWalk.i64_in (a * d + c * b) (by omega), IntWalk.i64_in (b * d) (by omega)]
theorem lowE_zero (n : Int) : S.lowE n 0 = (0, 0) := by unfold S.lowE; rfl
namespace S
def sum (s t : Sp) : Sp := close (lowE (pn (s.ln, s.ld) (t.ln, t.ld)) (pd (s.ln, s.ld) (t.ln, t.ld))) (upE (pn (s.hn, s.hd) (t.hn, t.hd)) (pd (s.hn, s.hd) (t.hn, t.hd))) (common s.den t.den)
end S
theorem sum_eq {s t : Sp} (hs : S.Ok s) (ht : S.Ok t) (k : Int → Int → Int → Int → Int → Bool → Bool → Option DV) : span_sum s.ln s.ld s.hn s.hd s.den s.no s.em t.ln t.ld t.hn t.hd t.den t.no t.em k = (S.sum s t).ap k := by
  have b1 := pn_bd hs.lo ht.lo
  have b2 := pn_bd hs.hi ht.hi
  have b3 := common_bd s.den t.den
  unfold span_sum B_span_sum S.sum
  simp only [plus_eq hs.lo ht.lo, plus_eq hs.hi ht.hi, common_eq hs.d0 hs.d1 ht.d0 ht.d1]
  exact closed_eq (by simp only [pn]; omega) (by simp only [pd]; omega) (by simp only [pn]; omega) (by simp only [pd]; omega) b3.1 b3.2 k
theorem neg_ok {s : Sp} (h : S.Ok s) : S.Ok (S.neg s) := by
  have hm := neg_make h
  refine ⟨neg_valid h.hi, neg_valid h.lo, ?_, h.d0, h.d1⟩
  cases h0 : S.ooo (S.neg s).ln (S.neg s).ld (S.neg s).hn (S.neg s).hd
  · rfl
  · have e : S.make (Q.neg (s.hn, s.hd)).1 (Q.neg (s.hn, s.hd)).2 (Q.neg (s.ln, s.ld)).1 (Q.neg (s.ln, s.ld)).2 s.den = ⟨0, 0, 0, 0, 0, false, true⟩ := by
      unfold S.make; exact if_pos h0
    rw [e] at hm
    have : (S.neg s).em = true := by rw [← hm]
    cases this
end Go.Proofs.YtiiddikiaafanaaGreatDoor
