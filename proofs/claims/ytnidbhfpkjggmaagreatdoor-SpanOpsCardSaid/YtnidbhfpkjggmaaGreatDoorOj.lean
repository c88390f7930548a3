/-
  Spans as plain values: rests, the lesser and the greater, orders, on both sides.
-/
import Derived.Test.YtnidbhfpkjggmaaGreatDoorOi
set_option linter.all false
namespace Go.Proofs.YtnidbhfpkjggmaaGreatDoor
open Go.Pv Go.RowKit

theorem trans_le {a b c d e f : Int} (hb : 0 < b) (hd : 0 < d) (hf : 0 < f) (h1 : a * d ≤ c * b) (h2 : c * f ≤ e * d) : a * f ≤ e * b := by
  have e1 : a * d * f ≤ c * b * f := Int.mul_le_mul_of_nonneg_right h1 (by omega)
  have e2 : c * f * b ≤ e * d * b := Int.mul_le_mul_of_nonneg_right h2 (by omega)
  have e3 : a * f * d ≤ e * b * d := by
    rw [Int.mul_right_comm a f d, Int.mul_right_comm e b d]
    rw [Int.mul_right_comm c b f] at e1
    omega
  exact Int.le_of_mul_le_mul_right e3 hd
/-- A chosen end: one of the two, and how it lies to both. -/
theorem min_pick {a b c d : Int} (h : Q.isq a b = true) (h2 : Q.isq c d = true) : (Q.min (a, b) (c, d) = (a, b) ∧ a * d ≤ c * b) ∨ (Q.min (a, b) (c, d) = (c, d) ∧ c * b ≤ a * d) := by
  unfold Q.min
  rw [if_pos (by simp [Q.both, h, h2]), cmp_num h2 h]
  split
  · rename_i hx; rw [cmpi_neg] at hx; exact .inr ⟨rfl, by omega⟩
  · rename_i hx; rw [cmpi_neg] at hx; exact .inl ⟨rfl, by omega⟩
theorem max_pick {a b c d : Int} (h : Q.isq a b = true) (h2 : Q.isq c d = true) : (Q.max (a, b) (c, d) = (a, b) ∧ c * b ≤ a * d) ∨ (Q.max (a, b) (c, d) = (c, d) ∧ a * d ≤ c * b) := by
  unfold Q.max
  rw [if_pos (by simp [Q.both, h, h2]), cmp_num h2 h]
  split
  · rename_i hx; rw [cmpi_pos] at hx; exact .inr ⟨rfl, by omega⟩
  · rename_i hx; rw [cmpi_pos] at hx; exact .inl ⟨rfl, by omega⟩
theorem min_none {p q : Int × Int} (h : Q.both p q = false) : Q.min p q = (0, 0) := by unfold Q.min; rw [if_neg (by simp [h])]
theorem max_none {p q : Int × Int} (h : Q.both p q = false) : Q.max p q = (0, 0) := by unfold Q.max; rw [if_neg (by simp [h])]
namespace S
def lesser (s t : Sp) : Sp := ⟨(Q.min (s.ln, s.ld) (t.ln, t.ld)).1, (Q.min (s.ln, s.ld) (t.ln, t.ld)).2, (give Q.min (s.hn, s.hd) (t.hn, t.hd)).1, (give Q.min (s.hn, s.hd) (t.hn, t.hd)).2, common s.den t.den, false, false⟩
def greater (s t : Sp) : Sp := ⟨(give Q.max (s.ln, s.ld) (t.ln, t.ld)).1, (give Q.max (s.ln, s.ld) (t.ln, t.ld)).2, (Q.max (s.hn, s.hd) (t.hn, t.hd)).1, (Q.max (s.hn, s.hd) (t.hn, t.hd)).2, common s.den t.den, false, false⟩
end S
theorem lesser_make {s t : Sp} (hs : S.Ok s) (ht : S.Ok t) : S.make (S.lesser s t).ln (S.lesser s t).ld (S.lesser s t).hn (S.lesser s t).hd (S.lesser s t).den = S.lesser s t := by
  have b3 := common_bd s.den t.den
  refine make_ok (valid_min hs.lo ht.lo) (valid_give (valid_min hs.hi ht.hi) hs.hi ht.hi) (ooo_no fun h1 h2 => ?_) (isden_ok b3.1 b3.2)
  unfold S.lesser at h1 h2 ⊢
  simp only [] at h1 h2 ⊢
  cases hl : Q.isq s.ln s.ld
  · rw [min_none (by simp [Q.both, hl])] at h1; simp [isq00] at h1
  cases hl2 : Q.isq t.ln t.ld
  · rw [min_none (by simp [Q.both, hl2])] at h1; simp [isq00] at h1
  have bl := isq_bd hl
  have bl2 := isq_bd hl2
  unfold S.give at h2 ⊢
  simp only [] at h2 ⊢
  cases hh : Q.isq s.hn s.hd
  · rw [hh] at h2
    simp only [Bool.false_eq_true, if_false] at h2 ⊢
    have bh := isq_bd h2
    have hle := ht.le hl2 h2
    rcases min_pick hl hl2 with ⟨e, hx⟩ | ⟨e, hx⟩
    · rw [e]; exact trans_le (by omega) (by omega) (by omega) hx hle
    · rw [e]; exact hle
  · have bh := isq_bd hh
    have hle := hs.le hl hh
    simp only [if_true] at h2 ⊢
    cases hh2 : Q.isq t.hn t.hd
    · simp only [Bool.false_eq_true, if_false]
      rcases min_pick hl hl2 with ⟨e, hx⟩ | ⟨e, hx⟩
      · rw [e]; exact hle
      · rw [e]; exact trans_le (by omega) (by omega) (by omega) hx hle
    · have bh2 := isq_bd hh2
      have hle2 := ht.le hl2 hh2
      simp only [if_true]
      rcases min_pick hl hl2 with ⟨e, hx⟩ | ⟨e, hx⟩ <;> rcases min_pick hh hh2 with ⟨e2, hy⟩ | ⟨e2, hy⟩ <;> rw [e, e2]
      · exact hle
      · exact trans_le (by omega) (by omega) (by omega) hx hle2
      · exact trans_le (by omega) (by omega) (by omega) hx hle
      · exact hle2
theorem greater_make {s t : Sp} (hs : S.Ok s) (ht : S.Ok t) : S.make (S.greater s t).ln (S.greater s t).ld (S.greater s t).hn (S.greater s t).hd (S.greater s t).den = S.greater s t := by
  have b3 := common_bd s.den t.den
  refine make_ok (valid_give (valid_max hs.lo ht.lo) hs.lo ht.lo) (valid_max hs.hi ht.hi) (ooo_no fun h1 h2 => ?_) (isden_ok b3.1 b3.2)
  unfold S.greater at h1 h2 ⊢
  simp only [] at h1 h2 ⊢
  cases hh : Q.isq s.hn s.hd
  · rw [max_none (by simp [Q.both, hh])] at h2; simp [isq00] at h2
  cases hh2 : Q.isq t.hn t.hd
  · rw [max_none (by simp [Q.both, hh2])] at h2; simp [isq00] at h2
  have bh := isq_bd hh
  have bh2 := isq_bd hh2
  unfold S.give at h1 ⊢
  simp only [] at h1 ⊢
  cases hl : Q.isq s.ln s.ld
  · rw [hl] at h1
    simp only [Bool.false_eq_true, if_false] at h1 ⊢
    have bl := isq_bd h1
    have hle := ht.le h1 hh2
    rcases max_pick hh hh2 with ⟨e, hx⟩ | ⟨e, hx⟩
    · rw [e]; exact trans_le (by omega) (by omega) (by omega) hle hx
    · rw [e]; exact hle
  · have bl := isq_bd hl
    have hle := hs.le hl hh
    simp only [if_true] at h1 ⊢
    cases hl2 : Q.isq t.ln t.ld
    · simp only [Bool.false_eq_true, if_false]
      rcases max_pick hh hh2 with ⟨e, hx⟩ | ⟨e, hx⟩
      · rw [e]; exact hle
      · rw [e]; exact trans_le (by omega) (by omega) (by omega) hle hx
    · have bl2 := isq_bd hl2
      have hle2 := ht.le hl2 hh2
      simp only [if_true]
      rcases max_pick hl hl2 with ⟨e, hx⟩ | ⟨e, hx⟩ <;> rcases max_pick hh hh2 with ⟨e2, hy⟩ | ⟨e2, hy⟩ <;> rw [e, e2]
      · exact hle
      · exact trans_le (by omega) (by omega) (by omega) hle hy
      · exact trans_le (by omega) (by omega) (by omega) hle2 hy
      · exact hle2
theorem two_min {s t : Sp} (hs : S.Ok s) (ht : S.Ok t) : TwoIs ⟨#[109, 105, 110]⟩ s t (S.lesser s t) := by
  refine ⟨fun k => ?_, fun k => ?_, rfl⟩
  · rw [tw_min, ← lesser_make hs ht]
    unfold ratio_Min S.lesser
    simp only [give_min hs.hi ht.hi, common_eq hs.d0 hs.d1 ht.d0 ht.d1, make_eq]
  · rw [rtw_min]
    unfold serinetteref03_lower B_serinetteref03_lower serinetteref01_Min S.orn S.lesser Sp.ap
    simp only [rcommon_eq hs.d0 hs.d1 ht.d0 ht.d1, rgive _ ht.hi, Bool.false_eq_true, if_false, Bool.false_or]
theorem two_max {s t : Sp} (hs : S.Ok s) (ht : S.Ok t) : TwoIs ⟨#[109, 97, 120]⟩ s t (S.greater s t) := by
  refine ⟨fun k => ?_, fun k => ?_, rfl⟩
  · rw [tw_max, ← greater_make hs ht]
    unfold ratio_Max S.greater
    simp only [give_max hs.lo ht.lo, common_eq hs.d0 hs.d1 ht.d0 ht.d1, make_eq]
  · rw [rtw_max]
    unfold serinetteref03_upper B_serinetteref03_upper serinetteref01_Max S.orn S.greater Sp.ap
    simp only [rcommon_eq hs.d0 hs.d1 ht.d0 ht.d1, rgive _ ht.lo, if_true, Bool.false_or]
/-- An end of a span, brought outward as it is. -/
theorem rend_out {c d : Int} (h2 : Q.valid (c, d) = true) : ∃ n m o, (∀ K : Int → Int → Bool → Option DV, serinetteref03_end c d K = K n m o) ∧ ∀ k, serinetteref03_outward n m o true k = k (S.upE c d).1 (S.upE c d).2 := by
  simp only [rend_eq]
  cases h3 : Q.isq c d
  · obtain ⟨rfl, rfl⟩ := valid_none h2 h3
    exact ⟨0, 1, true, fun K => rfl, fun k => by rw [routward_open, upE_zero]⟩
  · have b := isq_bd h3
    exact ⟨c, d, false, fun K => rfl, fun k => by rw [routward_eq true (by omega) (by omega)]; rfl⟩
namespace S
def rest (s t : Sp) : Sp := if (Q.isq t.ln t.ld && decide (0 < t.ln)) = true then close (lowE 0 1) (upE t.hn t.hd) (common s.den t.den) else all
end S
theorem exactly_eq (a b : Int) (k : Int → Int → Option DV) : span_exactly a b k = k a b := rfl
theorem two_mod {s t : Sp} (hs : S.Ok s) (ht : S.Ok t) : TwoIs ⟨#[109, 111, 100]⟩ s t (S.rest s t) := by
  have b3 := common_bd s.den t.den
  have bh := valid_bd ht.hi
  have hcond : decide (t.ln ≤ 0) = !(Q.isq t.ln t.ld && decide (0 < t.ln)) := by
    cases hq : Q.isq t.ln t.ld
    · obtain ⟨e, _⟩ := valid_none ht.lo hq
      rw [e]; rfl
    · by_cases h : 0 < t.ln
      · have : ¬ t.ln ≤ 0 := by omega
        simp [h, this]
      · have : t.ln ≤ 0 := by omega
        simp [h, this]
  refine ⟨fun k => ?_, fun k => ?_, by unfold S.rest; split <;> rfl⟩
  · rw [tw_mod]
    unfold span_modulo B_span_modulo S.rest
    simp only [hcond, all_eq, zero_eq, exactly_eq, common_eq hs.d0 hs.d1 ht.d0 ht.d1]
    cases (Q.isq t.ln t.ld && decide (0 < t.ln))
    · rfl
    · simp only [Bool.not_true, cond_false, if_true]
      exact closed_eq (by omega) (by omega) (by omega) (by omega) b3.1 b3.2 k
  · rw [rtw_mod]
    simp only [rcommon_eq hs.d0 hs.d1 ht.d0 ht.d1, whole0, less_eq, isq01, Bool.true_and, Int.zero_mul, Int.mul_one, Bool.false_and, Bool.or_false, unknown_eq]
    unfold S.rest
    cases (Q.isq t.ln t.ld && decide (0 < t.ln))
    · simp only [cond_false, Bool.false_eq_true, if_false, orn_all]
    · simp only [cond_true, if_true]
      obtain ⟨n, m, o, p1, p2⟩ := rend_out ht.hi
      rw [p1]
      exact rclosed_out (p := S.lowE 0 1) (fun k => by rw [routward_eq false (by omega) (by omega)]; rfl) p2 _ b3.1 b3.2 k
namespace S
/-- An answer that is told, or left open. -/
def deci (y n : Bool) : Sp := if y = true then two true else if n = true then two false else ⟨0, 1, 1, 1, 1, false, false⟩
end S
theorem deci_em (y n : Bool) : (S.deci y n).em = false := by unfold S.deci S.two; cases y <;> cases n <;> rfl
theorem truth_deci {y n : Bool} (h : y = true → n = false) (o : Bool) (k : Int → Int → Int → Int → Int → Bool → Bool → Option DV) : serinetteref03_truth y n o k = (S.orn (S.deci y n) o).ap k := by
  rw [truth_eq]
  unfold S.orn S.deci S.two Sp.ap
  cases y
  · cases n <;> simp
  · rw [h rfl]; simp
theorem truth1 : Q.truth true = (1, 1) := by decide
theorem truth0 : Q.truth false = (0, 1) := by decide
/-- What a test of two numbers tells. -/
def tq (f : Int → Int → Bool) (p q : Int × Int) : Int × Int := if Q.both p q = true then Q.truth (f (p.1 * q.2) (q.1 * p.2)) else (0, 0)
theorem tq_one (f : Int → Int → Bool) (a b c d : Int) : (((tq f (a, b) (c, d)).1 == 1) && (((tq f (a, b) (c, d)).2 == 1) && true)) = (Q.isq a b && Q.isq c d && f (a * d) (c * b)) := by
  unfold tq Q.both
  cases Q.isq a b <;> cases Q.isq c d <;> simp
  cases f (a * d) (c * b)
  · rw [truth0]; rfl
  · rw [truth1]; rfl
theorem tq_zero (f : Int → Int → Bool) (a b c d : Int) : (((tq f (a, b) (c, d)).1 == 0) && (((tq f (a, b) (c, d)).2 == 1) && true)) = (Q.isq a b && Q.isq c d && !f (a * d) (c * b)) := by
  unfold tq Q.both
  cases Q.isq a b <;> cases Q.isq c d <;> simp
  cases f (a * d) (c * b)
  · rw [truth0]; rfl
  · rw [truth1]; rfl
theorem lit_lt : (ByteArray.toList (⟨#[108, 116]⟩)) = [108, 116] := by kernel_rfl
theorem lit_le : (ByteArray.toList (⟨#[108, 101]⟩)) = [108, 101] := by kernel_rfl
theorem lit_eq : (ByteArray.toList (⟨#[101, 113]⟩)) = [101, 113] := by kernel_rfl
theorem lit_ne' : (ByteArray.toList (⟨#[110, 101]⟩)) = [110, 101] := by kernel_rfl
theorem cmpi_le (x y : Int) : decide (Q.cmpi x y ≤ 0) = decide (x ≤ y) := by
  unfold Q.cmpi
  split
  · simp; omega
  · split <;> simp <;> omega
theorem test_lt (a b c d : Int) (k : Int → Int → Option DV) : ratio_Test ⟨#[108, 116]⟩ a b c d k = k (tq (fun x y => decide (x < y)) (a, b) (c, d)).1 (tq (fun x y => decide (x < y)) (a, b) (c, d)).2 := by
  unfold ratio_Test tq Q.tst
  rw [lit_lt]
  cases hb : Q.both (a, b) (c, d)
  · rfl
  · obtain ⟨h1, h2⟩ := (Q.both_iff _ _).1 hb
    simp only [if_true, cmp_num h1 h2, cmpi_lt]
    rfl
theorem test_le (a b c d : Int) (k : Int → Int → Option DV) : ratio_Test ⟨#[108, 101]⟩ a b c d k = k (tq (fun x y => decide (x ≤ y)) (a, b) (c, d)).1 (tq (fun x y => decide (x ≤ y)) (a, b) (c, d)).2 := by
  unfold ratio_Test tq Q.tst
  rw [lit_le]
  cases hb : Q.both (a, b) (c, d)
  · rfl
  · obtain ⟨h1, h2⟩ := (Q.both_iff _ _).1 hb
    simp only [if_true, cmp_num h1 h2, cmpi_le]
    rfl
theorem test_eq (a b c d : Int) (k : Int → Int → Option DV) : ratio_Test ⟨#[101, 113]⟩ a b c d k = k (tq (fun x y => x == y) (a, b) (c, d)).1 (tq (fun x y => x == y) (a, b) (c, d)).2 := by
  unfold ratio_Test tq Q.tst
  rw [lit_eq]
  cases hb : Q.both (a, b) (c, d)
  · rfl
  · obtain ⟨h1, h2⟩ := (Q.both_iff _ _).1 hb
    simp only [if_true, cmp_num h1 h2, cmpi_eq]
    rfl
theorem test_ne (a b c d : Int) (k : Int → Int → Option DV) : ratio_Test ⟨#[110, 101]⟩ a b c d k = k (tq (fun x y => x != y) (a, b) (c, d)).1 (tq (fun x y => x != y) (a, b) (c, d)).2 := by
  unfold ratio_Test tq Q.tst
  rw [lit_ne']
  cases hb : Q.both (a, b) (c, d)
  · rfl
  · obtain ⟨h1, h2⟩ := (Q.both_iff _ _).1 hb
    simp only [if_true, cmp_num h1 h2, cmpi_eq, bne]
    rfl
end Go.Proofs.YtnidbhfpkjggmaaGreatDoor
