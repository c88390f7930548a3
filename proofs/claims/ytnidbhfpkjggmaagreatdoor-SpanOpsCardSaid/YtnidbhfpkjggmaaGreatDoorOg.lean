import Derived.Test.YtnidbhfpkjggmaaGreatDoorOd
set_option linter.all false

/-
  Exact ends brought outward to numbers: the program's lower and upper ends, the specification's outward: the same plain function.
-/
namespace Go.Proofs.YtnidbhfpkjggmaaGreatDoor
open Go.Pv Go.RowKit

namespace S
/-- A lower end: the number itself, or the whole one below it, or none. -/
def lowE (n d : Int) : Int × Int :=
  if d = 0 then (0, 0) else if Q.isq (Q.mk n d).1 (Q.mk n d).2 = true then Q.mk n d else if n / d ≥ 1073741824 then (0, 0) else Q.mk (n / d) 1
def upE (n d : Int) : Int × Int := Q.neg (lowE (-n) d)
end S
/-- A fraction in lowest terms. -/
structure Low (n d g p q : Int) : Prop where
  gp : 0 < g
  gd : g = (n.natAbs.gcd d.natAbs : Nat)
  hp : n.tdiv g = p
  hq : d.tdiv g = q
  en : n = g * p
  ed : d = g * q
  q1 : 1 ≤ q
  cop : p.natAbs.gcd q.natAbs = 1
theorem low_of (n d : Int) (hd : 0 < d) : ∃ g p q, Low n d g p q := by
  refine ⟨(n.natAbs.gcd d.natAbs : Nat), n.tdiv (n.natAbs.gcd d.natAbs : Nat), d.tdiv (n.natAbs.gcd d.natAbs : Nat), ?_⟩
  have hgp : 0 < n.natAbs.gcd d.natAbs := Nat.gcd_pos_of_pos_right _ (by omega)
  have dn : ((n.natAbs.gcd d.natAbs : Nat) : Int) ∣ n := Int.ofNat_dvd_left.2 (Nat.gcd_dvd_left _ _)
  have dd : ((n.natAbs.gcd d.natAbs : Nat) : Int) ∣ d := Int.ofNat_dvd_left.2 (Nat.gcd_dvd_right _ _)
  have e1 : (n.tdiv ((n.natAbs.gcd d.natAbs : Nat) : Int)).natAbs = n.natAbs / n.natAbs.gcd d.natAbs := by rw [Int.natAbs_tdiv]; simp only [Int.natAbs_natCast]; rfl
  have e2 : (d.tdiv ((n.natAbs.gcd d.natAbs : Nat) : Int)).natAbs = d.natAbs / n.natAbs.gcd d.natAbs := by rw [Int.natAbs_tdiv]; simp only [Int.natAbs_natCast]; rfl
  have ed : d = ((n.natAbs.gcd d.natAbs : Nat) : Int) * d.tdiv ((n.natAbs.gcd d.natAbs : Nat) : Int) := (Int.mul_tdiv_cancel' dd).symm
  refine ⟨by omega, rfl, rfl, rfl, (Int.mul_tdiv_cancel' dn).symm, ed, ?_, by rw [e1, e2]; exact Q.low_cop _ _ (by omega)⟩
  apply Classical.byContradiction
  intro hc
  have : ((n.natAbs.gcd d.natAbs : Nat) : Int) * d.tdiv ((n.natAbs.gcd d.natAbs : Nat) : Int) ≤ 0 := Int.mul_nonpos_of_nonneg_of_nonpos (by omega) (by omega)
  omega
theorem Low.mkq {n d g p q : Int} (h : Low n d g p q) (hd : 0 < d) : Q.mk n d = if Q.isq p q = true then (p, q) else (0, 0) := by
  have := Q.mk_pos n d hd g h.gd
  rw [h.hp, h.hq] at this
  cases hq : Q.isq p q
  · rw [if_neg (by decide)]; exact this.2 hq
  · rw [if_pos rfl]; exact this.1 hq
theorem Low.num {n d g p q : Int} (h : Low n d g p q) : Q.isq p q = true ↔ (-1073741824 ≤ p ∧ p ≤ 1073741824 ∧ q ≤ 1073741824) := by
  rw [Q.isq_iff]
  constructor
  · rintro ⟨a, b, c, d, _⟩; exact ⟨a, b, d⟩
  · rintro ⟨a, b, c⟩; exact ⟨a, b, h.q1, c, h.cop⟩
theorem Low.ediv {n d g p q : Int} (h : Low n d g p q) : n / d = p / q := by
  rw [h.en, h.ed]; exact Int.mul_ediv_mul_of_pos _ _ h.gp
theorem Low.neg {n d g p q : Int} (h : Low n d g p q) : Low (-n) d g (-p) q :=
  ⟨h.gp, by rw [Int.natAbs_neg]; exact h.gd, by rw [Int.neg_tdiv, h.hp], h.hq, by rw [h.en, Int.mul_neg], h.ed, h.q1, by rw [Int.natAbs_neg]; exact h.cop⟩
theorem Low.bd {n d g p q : Int} (h : Low n d g p q) (hd : 0 < d) : (p.natAbs ≤ n.natAbs) ∧ q ≤ d := by
  have h1 : n.natAbs = g.natAbs * p.natAbs := by rw [h.en, Int.natAbs_mul]
  have h2 : 1 * p.natAbs ≤ g.natAbs * p.natAbs := Nat.mul_le_mul_right _ (by have := h.gp; omega)
  have h3 : 1 * q ≤ g * q := Int.mul_le_mul_of_nonneg_right (by have := h.gp; omega) (by have := h.q1; omega)
  have := h.ed
  omega
/-- A whole fraction in lowest terms is over 1. -/
theorem Low.whole {n d g p q : Int} (h : Low n d g p q) (hr : p % q = 0) : q = 1 := by
  have hd : q.natAbs ∣ p.natAbs := by
    have : q ∣ p := Int.dvd_of_emod_eq_zero hr
    exact Int.natAbs_dvd_natAbs.2 this
  have := h.cop
  rw [Nat.gcd_comm, Nat.gcd_eq_left hd] at this
  have := h.q1
  omega
theorem mk1_none {n : Int} (h : n < -1073741824 ∨ 1073741824 < n) : Q.mk n 1 = (0, 0) := by
  rw [Q.mk1, if_neg (by omega)]
/-- A number's end is itself; of others the whole part is below the greatest. -/
theorem lowE_eq {n d g p q : Int} (h : Low n d g p q) (hd : 0 < d) : S.lowE n d = if Q.isq p q = true then (p, q) else if p / q ≥ 1073741824 then (0, 0) else Q.mk (p / q) 1 := by
  unfold S.lowE
  rw [if_neg (by omega), h.mkq hd, h.ediv]
  cases hq : Q.isq p q
  · simp [isq00]
  · simp [hq]
theorem lower_eq {n d : Int} (hn : -4611686018427387904 ≤ n ∧ n ≤ 4611686018427387904) (hd : 0 ≤ d ∧ d ≤ 1152921504606846976) (k : Int → Int → Option DV) : span_end_lower n d k = k (S.lowE n d).1 (S.lowE n d).2 := by
  unfold span_end_lower B_span_end_lower ratio_Make ratio_Is span_end_isOpen B_span_end_isOpen
  have c1 : decide ((-9223372036854775808 ≤ n ∧ n ≤ 9223372036854775807) ∧ (-9223372036854775808 ≤ d ∧ d ≤ 9223372036854775807)) = true := decide_eq_true (by omega)
  simp only [c1, cond_true]
  by_cases h0 : d = 0
  · subst h0
    rw [Q.mk_zero]
    simp [isq00, S.lowE]
  · have hp : 0 < d := by omega
    obtain ⟨g, p, q, hl⟩ := low_of n d hp
    have hb := Q.tdiv_bd n d 4611686018427387904 (by omega)
    have w1 : IntKind.wrap .i64 (Int.tdiv n d) = Int.tdiv n d := IntWalk.i64_in _ (by omega)
    have w2 : IntKind.wrap .i64 (Int.tdiv n d - 1) = Int.tdiv n d - 1 := IntWalk.i64_in _ (by omega)
    have c2 : decide ((-9223372036854775808 ≤ Int.tdiv n d - 1 ∧ Int.tdiv n d - 1 ≤ 9223372036854775807) ∧ (-9223372036854775808 ≤ (1 : Int) ∧ (1 : Int) ≤ 9223372036854775807)) = true := decide_eq_true (by omega)
    have c3 : decide ((-9223372036854775808 ≤ Int.tdiv n d ∧ Int.tdiv n d ≤ 9223372036854775807) ∧ (-9223372036854775808 ≤ (1 : Int) ∧ (1 : Int) ≤ 9223372036854775807)) = true := decide_eq_true (by omega)
    have hz : (d == 0) = false := by simp [h0]
    rw [lowE_eq hl hp, hl.mkq hp]
    cases hq : Q.isq p q
    · simp only [Bool.false_eq_true, if_false, isq00, Bool.not_false, cond_true, hz, cond_false, w1, w2, c2, c3]
      have hf := Q.floor_div n d hp
      have hnum := hl.num
      rw [hl.ediv] at hf
      have hlt : ∀ x : Int, (bif decide (x ≥ 1073741824) then k 0 0 else k (Q.mk x 1).1 (Q.mk x 1).2) = k (if x ≥ 1073741824 then (0, 0) else Q.mk x 1).1 (if x ≥ 1073741824 then (0, 0) else Q.mk x 1).2 := by
        intro x
        by_cases hx : x ≥ 1073741824 <;> simp [hx]
      by_cases hneg : n < 0
      · simp only [hneg, decide_true, cond_true]
        rw [hlt]
        have ht : Int.tdiv n d ≤ 0 := by
          have : 0 ≤ Int.tdiv (-n) d := Int.tdiv_nonneg (by omega) (by omega)
          rw [Int.neg_tdiv] at this; omega
        by_cases hm : n.tmod d < 0
        · rw [if_pos hm] at hf
          rw [hf]
        · rw [if_neg hm] at hf
          -- a whole number that is none: beyond
          have hm0 : n.tmod d = 0 := by
            have : n.tmod d ≤ 0 := by
              have h9 := Int.tmod_nonneg (a := -n) d (by omega)
              rw [Int.neg_tmod] at h9; omega
            omega
          have hmod : n % d = 0 := by
            have : d ∣ n := Int.dvd_of_tmod_eq_zero hm0
            exact Int.emod_eq_zero_of_dvd this
          have hpq : p % q = 0 := by
            rw [hl.en, hl.ed, Int.mul_emod_mul_of_pos _ _ hl.gp] at hmod
            have := hl.gp
            rcases Int.mul_eq_zero.1 hmod with h' | h'
            · omega
            · exact h'
          have hq1 := hl.whole hpq
          subst hq1
          rw [Int.ediv_one] at hf ⊢
          have hbig : p < -1073741824 := by
            apply Classical.byContradiction
            intro hc
            have : Q.isq p 1 = true := hnum.2 ⟨by omega, by omega, by omega⟩
            rw [hq] at this; cases this
          rw [if_neg (by omega), if_neg (by omega), mk1_none (by omega), mk1_none (by omega)]
      · simp only [hneg, decide_false, cond_false]
        rw [hlt]
        have hm : ¬ n.tmod d < 0 := by
          have := Int.tmod_nonneg (a := n) d (by omega)
          omega
        rw [if_neg hm] at hf
        rw [hf]
    · simp [hq]
end Go.Proofs.YtnidbhfpkjggmaaGreatDoor

/-
  Closing of exact ends to a span: the program's and the specification's readings are the same plain function.
-/
namespace Go.Proofs.YtnidbhfpkjggmaaGreatDoor
open Go.Pv Go.RowKit

theorem lowE_valid {n d : Int} (hd : 0 ≤ d) : Q.valid ((S.lowE n d).1, (S.lowE n d).2) = true := by
  unfold S.lowE
  split
  · rfl
  · split
    · rename_i h; exact valid_isq h
    · split
      · rfl
      · rcases Q.mk_isq (n / d) 1 with h | h
        · rw [h]; rfl
        · exact valid_isq h
theorem upE_valid {n d : Int} (hd : 0 ≤ d) : Q.valid ((S.upE n d).1, (S.upE n d).2) = true := neg_valid (lowE_valid hd)
theorem upper_eq {n d : Int} (hn : -4611686018427387904 ≤ n ∧ n ≤ 4611686018427387904) (hd : 0 ≤ d ∧ d ≤ 1152921504606846976) (k : Int → Int → Option DV) : span_end_upper n d k = k (S.upE n d).1 (S.upE n d).2 := by
  unfold span_end_upper B_span_end_upper ratio_Neg S.upE
  have w : IntKind.wrap .i64 (0 - n) = -n := by rw [Int.zero_sub]; exact IntWalk.i64_in _ (by omega)
  rw [w]
  simp only [lower_eq (n := -n) (d := d) (by omega) hd]
/-- Brought outward, in lowest terms. -/
def outP (up : Bool) (p q : Int) : Int × Int :=
  if Q.isq p q = true then (p, q) else if up = true then Q.neg (if -p / q ≥ 1073741824 then (0, 0) else Q.mk (-p / q) 1) else (if p / q ≥ 1073741824 then (0, 0) else Q.mk (p / q) 1)
theorem isq_neg' (p q : Int) : Q.isq (-p) q = Q.isq p q := Q.isq_neg p q
theorem upE_eq {n d g p q : Int} (h : Low n d g p q) (hd : 0 < d) : S.upE n d = outP true p q := by
  unfold S.upE outP
  rw [lowE_eq h.neg hd, isq_neg']
  cases hq : Q.isq p q
  · simp
  · simp [Q.neg, isq_neg', hq]
theorem lowE_out {n d g p q : Int} (h : Low n d g p q) (hd : 0 < d) : S.lowE n d = outP false p q := by
  unfold outP
  rw [lowE_eq h hd]
  simp
theorem neg_mk1 (n : Int) : Q.neg (Q.mk n 1) = Q.mk (-n) 1 := by
  rw [Q.mk1, Q.mk1, Int.natAbs_neg]
  by_cases h : n.natAbs ≤ 1073741824
  · rw [if_pos h, if_pos h]
    have : Q.isq n 1 = true := Q.isq_one.2 h
    simp [Q.neg, this]
  · rw [if_neg h, if_neg h]; rfl
/-- What the specification asks, in lowest terms. -/
theorem out_spec {n d g p q : Int} (h : Low n d g p q) (up : Bool) (A : Int) (hA : A = if -p > p then -p else p) (r : Int × Int)
    (hr : r = if A / q > 1073741824 ∨ (A / q = 1073741824 ∧ A % q ≠ 0) then (0, 0) else if q > 1 ∧ (q > 1073741824 ∨ p > 1073741824 ∨ p < -1073741824) then Q.mk (if up = true then p / q + 1 else p / q) 1 else Q.mk p q) : outP up p q = r := by
  have hq1 := h.q1
  have hqp : 0 < q := by omega
  have hnum := h.num
  have hA0 : 0 ≤ A := by rw [hA]; split <;> omega
  have hAq0 : 0 ≤ A / q := Int.ediv_nonneg hA0 (by omega)
  have hAm := Int.mul_ediv_add_emod A q
  have hAr := Int.emod_nonneg A (show q ≠ 0 by omega)
  have hAl := Int.emod_lt_of_pos A hqp
  have hpm := Int.mul_ediv_add_emod p q
  have hpr := Int.emod_nonneg p (show q ≠ 0 by omega)
  have hpl := Int.emod_lt_of_pos p hqp
  have hnm := Int.mul_ediv_add_emod (-p) q
  have hnr := Int.emod_nonneg (-p) (show q ≠ 0 by omega)
  have hnl := Int.emod_lt_of_pos (-p) hqp
  have hAbs : (A = p ∧ 0 ≤ p) ∨ (A = -p ∧ p < 0) := by rw [hA]; split <;> omega
  -- whole parts of both signs
  have hsum : p % q = 0 ∧ -p / q = -(p / q) ∨ p % q ≠ 0 ∧ -p / q = -(p / q) - 1 := by
    by_cases hz : p % q = 0
    · left
      refine ⟨hz, ?_⟩
      have hdv : q ∣ p := Int.dvd_of_emod_eq_zero hz
      exact Int.neg_ediv_of_dvd hdv
    · right
      refine ⟨hz, ?_⟩
      have e : q * (-p / q + p / q + 1) = q - (-p) % q - p % q := by
        rw [Int.mul_add, Int.mul_add, Int.mul_one]; omega
      have b1 : q * (-p / q + p / q + 1) < q * 1 := by rw [e, Int.mul_one]; omega
      have b2 : q * (-1) < q * (-p / q + p / q + 1) := by rw [e, Int.mul_neg, Int.mul_one]; omega
      have c1 := Int.lt_of_mul_lt_mul_left b1 (by omega)
      have c2 := Int.lt_of_mul_lt_mul_left b2 (by omega)
      omega
  rw [hr]
  unfold outP
  cases hq : Q.isq p q
  · -- no number
    have hno : ¬ (-1073741824 ≤ p ∧ p ≤ 1073741824 ∧ q ≤ 1073741824) := fun hc => by rw [hnum.2 hc] at hq; cases hq
    have hwh : p % q = 0 → q = 1 := h.whole
    simp only [Bool.false_eq_true, if_false]
    -- sizes: A / q against both whole parts
    rcases hAbs with ⟨e, hs⟩ | ⟨e, hs⟩
    · subst e
      by_cases hbig : A / q > 1073741824 ∨ (A / q = 1073741824 ∧ A % q ≠ 0)
      · rw [if_pos hbig]
        cases up
        · simp only [Bool.false_eq_true, if_false]; rw [if_pos (by omega)]
        · simp only [if_true]
          rw [if_neg (by omega), mk1_none (by omega)]; rfl
      · rw [if_neg hbig]
        have hq2 : 1 < q := by
          apply Classical.byContradiction
          intro hc
          have : q = 1 := by omega
          subst this
          rw [Int.ediv_one] at hbig
          omega
        rw [if_pos (show q > 1 ∧ (q > 1073741824 ∨ A > 1073741824 ∨ A < -1073741824) by omega)]
        have hrest : A % q ≠ 0 := fun hz => by have := hwh hz; omega
        cases up
        · simp only [Bool.false_eq_true, if_false]; rw [if_neg (by omega)]
        · simp only [if_true]
          rw [if_neg (by omega), neg_mk1]
          congr 1; omega
    · subst e
      by_cases hbig : -p / q > 1073741824 ∨ (-p / q = 1073741824 ∧ -p % q ≠ 0)
      · rw [if_pos hbig]
        have hz0 : p % q = 0 → -p % q = 0 := fun hz => by
          have : q ∣ p := Int.dvd_of_emod_eq_zero hz
          exact Int.emod_eq_zero_of_dvd (Int.dvd_neg.2 this)
        cases up
        · simp only [Bool.false_eq_true, if_false]; rw [if_neg (by omega), mk1_none (by omega)]
        · simp only [if_true]; rw [if_pos (by omega)]; rfl
      · rw [if_neg hbig]
        have hq2 : 1 < q := by
          apply Classical.byContradiction
          intro hc
          have : q = 1 := by omega
          subst this
          rw [Int.ediv_one] at hbig
          omega
        rw [if_pos (show q > 1 ∧ (q > 1073741824 ∨ p > 1073741824 ∨ p < -1073741824) by omega)]
        have hrest : p % q ≠ 0 := fun hz => by have := hwh hz; omega
        have hrest2 : -p % q ≠ 0 := fun hz => by
          have h1 : q ∣ -p := Int.dvd_of_emod_eq_zero hz
          exact hrest (Int.emod_eq_zero_of_dvd (Int.dvd_neg.1 h1))
        cases up
        · simp only [Bool.false_eq_true, if_false]; rw [if_neg (by omega)]
        · simp only [if_true]
          rw [if_neg (by omega), neg_mk1]
          congr 1; omega
  · -- a number: kept
    have hb := hnum.1 hq
    have hAb : A ≤ 1073741824 := by omega
    have hAq : A / q ≤ A := Int.ediv_le_self _ hA0
    have hmk : Q.mk p q = (p, q) := Q.mk_id (a := (p, q)) hq
    simp only [if_true]
    rw [if_neg, if_neg (by omega), hmk]
    rintro (hc | ⟨hc, hc2⟩)
    · omega
    · have : q * (A / q) ≤ A := by omega
      rw [hc] at this
      have : q = 1 := by omega
      subst this
      simp at hc2
end Go.Proofs.YtnidbhfpkjggmaaGreatDoor

/-
  Closing of exact ends to a span, on both sides.
-/
namespace Go.Proofs.YtnidbhfpkjggmaaGreatDoor
open Go.Pv Go.RowKit

theorem routward_open (n d : Int) (up : Bool) (k : Int → Int → Option DV) : serinetteref03_outward n d true up k = k 0 0 := by
  unfold serinetteref03_outward B_serinetteref03_outward serinetteref01_None; rfl
theorem routward_eq {n d : Int} (up : Bool) (hn : -4611686018427387904 ≤ n ∧ n ≤ 4611686018427387904) (hd : 1 ≤ d ∧ d ≤ 1152921504606846976) (k : Int → Int → Option DV) :
    serinetteref03_outward n d false up k = k (if up = true then S.upE n d else S.lowE n d).1 (if up = true then S.upE n d else S.lowE n d).2 := by
  obtain ⟨g, p, q, hl⟩ := low_of n d (by omega)
  have hb := hl.bd (by omega)
  have hq1 := hl.q1
  have hgp := hl.gp
  have hout : (if up = true then S.upE n d else S.lowE n d) = outP up p q := by
    cases up
    · exact lowE_out hl (by omega)
    · exact upE_eq hl (by omega)
  rw [hout, out_spec hl up (if -p > p then -p else p) rfl _ rfl]
  have hgle : g ≤ d := by
    have : g * 1 ≤ g * q := Int.mul_le_mul_of_nonneg_left hq1 (by omega)
    have := hl.ed; omega
  unfold serinetteref03_outward B_serinetteref03_outward serinetteref01_Divisor serinetteref01_FloorDiv serinetteref01_Make serinetteref01_None
  have c1 : decide ((-9223372036854775807 ≤ n ∧ n ≤ 9223372036854775807) ∧ (-9223372036854775807 ≤ d ∧ d ≤ 9223372036854775807)) = true := decide_eq_true (by omega)
  have hg0 : (g == 0) = false := by simp; omega
  have w1 : IntKind.wrap .i64 (Int.tdiv n g) = p := by rw [hl.hp]; exact IntWalk.i64_in _ (by omega)
  have w2 : IntKind.wrap .i64 (Int.tdiv d g) = q := by rw [hl.hq]; exact IntWalk.i64_in _ (by omega)
  have w3 : IntKind.wrap .i64 (0 - p) = -p := by rw [Int.zero_sub]; exact IntWalk.i64_in _ (by omega)
  have hq0 : (q == 0) = false := by simp; omega
  simp only [c1, cond_true, ← hl.gd, hg0, cond_false, w1, w2, w3, hq0]
  generalize hA : (if -p > p then -p else p) = A
  have hA0 : 0 ≤ A := by rw [← hA]; split <;> omega
  have hA1 : A ≤ 4611686018427387904 := by rw [← hA]; split <;> omega
  have t1 : Int.tdiv A q = A / q := Int.tdiv_eq_ediv_of_nonneg hA0
  have t2 : Int.tmod A q = A % q := Int.tmod_eq_emod_of_nonneg hA0
  have hAq0 : 0 ≤ A / q := Int.ediv_nonneg hA0 (by omega)
  have hAq : A / q ≤ A := Int.ediv_le_self _ hA0
  have hpq := Q.div_bd p q 4611686018427387904 (by omega) (by omega)
  have w4 : IntKind.wrap .i64 (A / q) = A / q := IntWalk.i64_in _ (by omega)
  have w5 : IntKind.wrap .i64 (p / q + 1) = p / q + 1 := IntWalk.i64_in _ (by omega)
  have c2 : decide ((-4611686018427387904 ≤ p ∧ p ≤ 4611686018427387904) ∧ (1 ≤ q ∧ q ≤ 4611686018427387904)) = true := decide_eq_true (by omega)
  have c3 : decide ((-9223372036854775808 ≤ p / q + 1 ∧ p / q + 1 ≤ 9223372036854775807) ∧ (-9223372036854775808 ≤ (1 : Int) ∧ (1 : Int) ≤ 9223372036854775807)) = true := decide_eq_true (by omega)
  have c4 : decide ((-9223372036854775808 ≤ p / q ∧ p / q ≤ 9223372036854775807) ∧ (-9223372036854775808 ≤ (1 : Int) ∧ (1 : Int) ≤ 9223372036854775807)) = true := decide_eq_true (by omega)
  have c5 : decide ((-9223372036854775808 ≤ p ∧ p ≤ 9223372036854775807) ∧ (-9223372036854775808 ≤ q ∧ q ≤ 9223372036854775807)) = true := decide_eq_true (by omega)
  simp only [t1, t2, w4, w5, c2, c3, c4, c5, cond_true]
  by_cases h1 : A / q > 1073741824
  · rw [if_pos (.inl h1)]; simp [h1]
  · by_cases h2 : A / q = 1073741824
    · by_cases h3 : A % q = 0
      · rw [if_neg (by omega)]
        have z3 : (A % q != 0) = false := by simp [h3]
        by_cases h4 : q > 1
        · by_cases h5 : q > 1073741824 <;> by_cases h6 : p > 1073741824 <;> by_cases h7 : p < -1073741824 <;> cases up <;> simp [h2, z3, h4, h5, h6, h7]
        · simp [h2, z3, h4]
      · rw [if_pos (.inr ⟨h2, h3⟩)]
        have z3 : (A % q != 0) = true := by simp [h3]
        simp [h2, z3]
    · rw [if_neg (by omega)]
      have z2 : (A / q == 1073741824) = false := beq_false_of_ne h2
      by_cases h4 : q > 1
      · by_cases h5 : q > 1073741824 <;> by_cases h6 : p > 1073741824 <;> by_cases h7 : p < -1073741824 <;> cases up <;> simp [h1, z2, h4, h5, h6, h7]
      · simp [h1, z2, h4]

namespace S
/-- Whether what lies between is of bounded size. -/
def fits (a : Int × Int) (n : Int) : Bool := decide ((a.1.natAbs : Int) * n ≤ 1073741824 * a.2)
def close (lo hi : Int × Int) (n : Int) : Sp :=
  ⟨lo.1, lo.2, hi.1, hi.2, n, n == 0 || !Q.isq lo.1 lo.2 || !Q.isq hi.1 hi.2 || !fits lo n || !fits hi n, false⟩
end S
theorem holds_eq {a b n : Int} (h : Q.isq a b = true) (h0 : 0 ≤ n) (h1 : n ≤ 1073741824) (k : Bool → Option DV) : span_holds a b n k = k (S.fits (a, b) n) := by
  have hb := isq_bd h
  unfold span_holds B_span_holds span_size B_span_size S.fits
  have w1 : IntKind.wrap .i64 (0 - a) = -a := by rw [Int.zero_sub]; exact IntWalk.i64_in _ (by omega)
  have e1 : (if -a > a then -a else a) = (a.natAbs : Int) := by split <;> omega
  have w2 : IntKind.wrap .u64 (a.natAbs : Int) = (a.natAbs : Int) := IntWalk.u64_in _ (by omega)
  have w3 : IntKind.wrap .u64 n = n := IntWalk.u64_in _ (by omega)
  have w4 : IntKind.wrap .u64 b = b := IntWalk.u64_in _ (by omega)
  have m1 := Q.mul_bd (a.natAbs : Int) n (by omega) (by omega)
  have m0 : 0 ≤ (a.natAbs : Int) * n := Int.mul_nonneg (by omega) h0
  have w5 : IntKind.wrap .u64 ((a.natAbs : Int) * n) = (a.natAbs : Int) * n := IntWalk.u64_in _ (by omega)
  have w6 : IntKind.wrap .u64 (1073741824 * b) = 1073741824 * b := IntWalk.u64_in _ (by omega)
  simp only [w1, e1, w2, w3, w4, w5, w6]
theorem closed_eq {a b c d n : Int} (ha : -4611686018427387904 ≤ a ∧ a ≤ 4611686018427387904) (hb : 0 ≤ b ∧ b ≤ 1152921504606846976) (hc : -4611686018427387904 ≤ c ∧ c ≤ 4611686018427387904) (hd : 0 ≤ d ∧ d ≤ 1152921504606846976) (h0 : 0 ≤ n) (h1 : n ≤ 1073741824)
    (k : Int → Int → Int → Int → Int → Bool → Bool → Option DV) : span_closed a b c d n k = (S.close (S.lowE a b) (S.upE c d) n).ap k := by
  have v1 := lowE_valid (n := a) hb.1
  have v2 := upE_valid (n := c) hd.1
  unfold span_closed B_span_closed span_isOpen B_span_isOpen S.close
  simp only [lower_eq ha hb, upper_eq hc hd, open_eq v1, open_eq v2]
  generalize S.lowE a b = p at *
  generalize S.upE c d = q at *
  obtain ⟨p1, p2⟩ := p
  obtain ⟨q1, q2⟩ := q
  simp only [Sp.ap]
  cases hn : n == 0
  · cases h2 : Q.isq p1 p2
    · simp
    · cases h3 : Q.isq q1 q2
      · simp
      · simp only [holds_eq h2 h0 h1, holds_eq h3 h0 h1]
        cases S.fits (p1, p2) n <;> cases S.fits (q1, q2) n <;> simp
  · simp
theorem fits_max {p q : Int × Int} {n : Int} (h : Q.isq p.1 p.2 = true) (h2 : Q.isq q.1 q.2 = true) (h0 : 0 ≤ n) :
    decide ((Q.max (Q.abs p) (Q.abs q)).1 * n > 1073741824 * (Q.max (Q.abs p) (Q.abs q)).2) = !(S.fits p n && S.fits q n) := by
  obtain ⟨a, b⟩ := p
  obtain ⟨c, d⟩ := q
  have b1 := isq_bd h
  have b2 := isq_bd h2
  have a1 : Q.abs (a, b) = ((a.natAbs : Int), b) := (Q.abs_val h).1
  have a2 : Q.abs (c, d) = ((c.natAbs : Int), d) := (Q.abs_val h2).1
  have i1 := (Q.abs_val h).2
  have i2 := (Q.abs_val h2).2
  simp only [] at i1 i2 b1 b2
  rw [a1, a2]
  have hmax : Q.max ((a.natAbs : Int), b) ((c.natAbs : Int), d) = if (a.natAbs : Int) * d < (c.natAbs : Int) * b then ((c.natAbs : Int), d) else ((a.natAbs : Int), b) := by
    unfold Q.max
    rw [if_pos (by simp [Q.both, i1, i2]), cmp_num i2 i1]
    by_cases hx : (a.natAbs : Int) * d < (c.natAbs : Int) * b
    · rw [if_pos hx, if_pos ((cmpi_pos _ _).2 hx)]
    · rw [if_neg hx, if_neg (fun h => hx ((cmpi_pos _ _).1 h))]
  rw [hmax]
  unfold S.fits
  -- one bound of the greater one bounds the lesser
  have key : ∀ x y u v : Int, 0 ≤ x → 0 < u → 0 < v → x * v ≤ y * u → y * n ≤ 1073741824 * v → x * n ≤ 1073741824 * u := by
    intro x y u v hx hu hv hxy hy
    have e1 : x * v * n ≤ y * u * n := Int.mul_le_mul_of_nonneg_right hxy h0
    have e2 : y * n * u ≤ 1073741824 * v * u := Int.mul_le_mul_of_nonneg_right hy (by omega)
    have e3 : x * n * v ≤ 1073741824 * u * v := by
      have r1 : x * n * v = x * v * n := Int.mul_right_comm _ _ _
      have r2 : y * u * n = y * n * u := Int.mul_right_comm _ _ _
      have r3 : 1073741824 * u * v = 1073741824 * v * u := Int.mul_right_comm _ _ _
      omega
    exact Int.le_of_mul_le_mul_right e3 hv
  have k1 := key (a.natAbs : Int) (c.natAbs : Int) b d (by omega) (by omega) (by omega)
  have k2 := key (c.natAbs : Int) (a.natAbs : Int) d b (by omega) (by omega) (by omega)
  by_cases hx : (a.natAbs : Int) * d < (c.natAbs : Int) * b
  · rw [if_pos hx]
    by_cases hf : (c.natAbs : Int) * n ≤ 1073741824 * d
    · have := k1 (by omega) hf
      simp [hf, this]
    · simp [hf]; omega
  · rw [if_neg hx]
    by_cases hf : (a.natAbs : Int) * n ≤ 1073741824 * b
    · have := k2 (by omega) hf
      simp [hf, this]
    · simp [hf]; omega
/-- The specification's closing, of ends that are brought outward. -/
theorem rclosed_out {a b c d n : Int} {o1 o2 : Bool} {p q : Int × Int} (e1 : ∀ k, serinetteref03_outward a b o1 false k = k p.1 p.2) (e2 : ∀ k, serinetteref03_outward c d o2 true k = k q.1 q.2) (o : Bool) (h0 : 0 ≤ n) (h1 : n ≤ 1073741824)
    (k : Int → Int → Int → Int → Int → Bool → Bool → Option DV) : serinetteref03_closed a b o1 c d o2 n o k = (S.orn (S.close p q n) o).ap k := by
  unfold serinetteref03_closed B_serinetteref03_closed serinetteref01_Is serinetteref01_Abs serinetteref01_Max S.close S.orn
  simp only [e1, e2, Sp.ap]
  obtain ⟨p1, p2⟩ := p
  obtain ⟨q1, q2⟩ := q
  simp only []
  cases hn : n == 0
  · cases h2 : Q.isq p1 p2
    · simp
    · cases h3 : Q.isq q1 q2
      · simp
      · have hf := fits_max (p := (p1, p2)) (q := (q1, q2)) h2 h3 h0
        have b1 := isq_bd h2
        have b2 := isq_bd h3
        have a1 : Q.abs (p1, p2) = ((p1.natAbs : Int), p2) := (Q.abs_val (a := (p1, p2)) h2).1
        have a2 : Q.abs (q1, q2) = ((q1.natAbs : Int), q2) := (Q.abs_val (a := (q1, q2)) h3).1
        have hm : ((Q.max (Q.abs (p1, p2)) (Q.abs (q1, q2))).1 = (p1.natAbs : Int) ∧ (Q.max (Q.abs (p1, p2)) (Q.abs (q1, q2))).2 = p2) ∨ ((Q.max (Q.abs (p1, p2)) (Q.abs (q1, q2))).1 = (q1.natAbs : Int) ∧ (Q.max (Q.abs (p1, p2)) (Q.abs (q1, q2))).2 = q2) := by
          have i1 := (Q.abs_val (a := (p1, p2)) h2).2
          have i2 := (Q.abs_val (a := (q1, q2)) h3).2
          simp only [] at i1 i2
          rw [a1, a2]
          unfold Q.max
          rw [if_pos (by simp [Q.both, i1, i2])]
          split
          · exact .inr ⟨rfl, rfl⟩
          · exact .inl ⟨rfl, rfl⟩
        have hb : 0 ≤ (Q.max (Q.abs (p1, p2)) (Q.abs (q1, q2))).1 ∧ (Q.max (Q.abs (p1, p2)) (Q.abs (q1, q2))).1 ≤ 1073741824 ∧ 1 ≤ (Q.max (Q.abs (p1, p2)) (Q.abs (q1, q2))).2 ∧ (Q.max (Q.abs (p1, p2)) (Q.abs (q1, q2))).2 ≤ 1073741824 := by
          rcases hm with ⟨x1, x2⟩ | ⟨x1, x2⟩ <;> rw [x1, x2] <;> omega
        have m1 := Q.mul_bd (Q.max (Q.abs (p1, p2)) (Q.abs (q1, q2))).1 n (by omega) (by omega)
        have w1 : IntKind.wrap .i64 ((Q.max (Q.abs (p1, p2)) (Q.abs (q1, q2))).1 * n) = (Q.max (Q.abs (p1, p2)) (Q.abs (q1, q2))).1 * n := IntWalk.i64_in _ (by omega)
        have w2 : IntKind.wrap .i64 (1073741824 * (Q.max (Q.abs (p1, p2)) (Q.abs (q1, q2))).2) = 1073741824 * (Q.max (Q.abs (p1, p2)) (Q.abs (q1, q2))).2 := IntWalk.i64_in _ (by omega)
        rw [show ((Q.abs (p1, p2)).1, (Q.abs (p1, p2)).2) = Q.abs (p1, p2) from rfl, show ((Q.abs (q1, q2)).1, (Q.abs (q1, q2)).2) = Q.abs (q1, q2) from rfl, w1, w2, hf]
        cases S.fits (p1, p2) n <;> cases S.fits (q1, q2) n <;> simp
  · simp
end Go.Proofs.YtnidbhfpkjggmaaGreatDoor
