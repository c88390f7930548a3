/-
  Numbers alike: the program's and the specification's.
-/
import Derived.Test.YtdfhakhapblhgaaGb
set_option linter.all false
namespace Go.Proofs.Ytdfhakhapblhgaa
open Go Go.Pv Go.RowKit
/-- The same number, or neither is one. -/
def alikeQ (q r : Int × Int) : Bool := decide (q = r) || (!Q.isq q.1 q.2 && !Q.isq r.1 r.2)
theorem cross_eq {a b c d : Int} (h1 : Q.isq a b = true) (h2 : Q.isq c d = true) : a * d = c * b ↔ a = c ∧ b = d := by
  obtain ⟨_, _, b1, _, g1⟩ := (Q.isq_iff a b).1 h1
  obtain ⟨_, _, d1, _, g2⟩ := (Q.isq_iff c d).1 h2
  constructor
  · intro h
    have hn : a.natAbs * d.natAbs = c.natAbs * b.natAbs := by rw [← Int.natAbs_mul, ← Int.natAbs_mul, h]
    have e1 : b.natAbs ∣ d.natAbs := Nat.Coprime.dvd_of_dvd_mul_left (Nat.Coprime.symm g1) ⟨c.natAbs, by rw [hn, Nat.mul_comm]⟩
    have e2 : d.natAbs ∣ b.natAbs := Nat.Coprime.dvd_of_dvd_mul_left (Nat.Coprime.symm g2) ⟨a.natAbs, by rw [← hn, Nat.mul_comm]⟩
    have e3 := Nat.dvd_antisymm e1 e2
    have e4 : b = d := by omega
    subst e4
    exact ⟨Int.eq_of_mul_eq_mul_right (by omega) h, rfl⟩
  · rintro ⟨rfl, rfl⟩; rfl
theorem wrap_small {x : Int} (h : -1152921504606846976 ≤ x ∧ x ≤ 1152921504606846976) : IntKind.wrap .i64 x = x := by
  simp [IntKind.wrap, IntKind.bits, IntKind.signed]
  omega
theorem compare_eq (a b : Int) (k : KI) : cmp_Compare_int64 a b k = k (if a < b then -1 else if a > b then 1 else 0) := by
  simp only [cmp_Compare_int64, B_cmp_Compare_int64, cmp_isNaN_int64, B_cmp_isNaN_int64, bne_self_eq_false, bx_f]
  by_cases h : a < b
  · simp only [h, decide_true, bx_t, if_true]
  · by_cases h2 : a > b
    · simp only [h, h2, decide_true, decide_false, bx_t, bx_f, if_true, if_false]
    · simp only [h, h2, decide_false, bx_f, if_false]
theorem compare_eq' (a b : Int) (k : KI) : cmp_Compare_int a b k = k (if a < b then -1 else if a > b then 1 else 0) := by
  simp only [cmp_Compare_int, B_cmp_Compare_int, cmp_isNaN_int, B_cmp_isNaN_int, bne_self_eq_false, bx_f]
  by_cases h : a < b
  · simp only [h, decide_true, bx_t, if_true]
  · by_cases h2 : a > b
    · simp only [h, h2, decide_true, decide_false, bx_t, bx_f, if_true, if_false]
    · simp only [h, h2, decide_false, bx_f, if_false]
def alike : List (Int × Int) → List (Int × Int) → Bool
  | [], [] => true
  | q :: qs, r :: rs => alikeQ q r && alike qs rs
  | _, _ => false
theorem ld_q (q : Int × Int) (k : KQ) : ld_ii (qpc q) 0 k = k q.1 q.2 := rfl
theorem alike_len : ∀ {a b : List (Int × Int)}, alike a b = true → a.length = b.length
  | [], [], _ => rfl
  | q :: qs, r :: rs, h => by
    simp only [alike, Bool.and_eq_true] at h
    simp [alike_len h.2]
theorem alike_loop (X Y : List (Int × Int)) (hl : X.length < 9223372036854775807) (κ : KB × Option DV) : ∀ (r1 r2 d1 d2 : List (Int × Int)), X = d1 ++ r1 → Y = d2 ++ r2 → d1.length = d2.length → r1.length = r2.length →
    LF (F_serinetteref05_Alike_l4 serinetteref01_Is) (r1.length + 1) (.h0 (X.map qpc) (Y.map qpc) d1.length) κ = bx (alike r1 r2) κ.2 (κ.1 false)
  | [], [], d1, d2, hX, hY, hd, hr => by
    simp only [LF, F_serinetteref05_Alike_l4, B_serinetteref05_Alike_l4_h0, List.length_map]
    have : decide ((d1.length : Int) < (X.length : Int)) = false := by simp [hX]
    rw [this, bx_f]; rfl
  | q :: r1, r :: r2, d1, d2, hX, hY, hd, hr => by
    have hlx : X.length = d1.length + r1.length + 1 := by simp [hX]; omega
    have ih := alike_loop X Y hl κ r1 r2 (d1 ++ [q]) (d2 ++ [r]) (by simp [hX]) (by simp [hY]) (by simp [hd]) (by simpa using hr)
    rw [show (q :: r1).length + 1 = (r1.length + 1) + 1 from rfl, LF]
    simp only [F_serinetteref05_Alike_l4, B_serinetteref05_Alike_l4_h0, List.length_map]
    have h1 : decide ((d1.length : Int) < (X.length : Int)) = true := by simp; omega
    have h2 : decide (0 ≤ (d1.length : Int)) = true := by simp
    have h3 : (X.map qpc)[Int.toNat (d1.length : Int)]? = some (qpc q) := by simp [hX]
    have h4 : (Y.map qpc)[Int.toNat (d1.length : Int)]? = some (qpc r) := by rw [hd]; simp [hY]
    simp only [h1, h2, h3, h4, bx_t, optE, ld_q, is_ref]
    rw [wrap_next (by omega) (by omega)]
    rw [show (d1.length : Int) + 1 = ((d1 ++ [q]).length : Nat) by simp, ih]
    simp only [alike, alikeQ]
    by_cases e : q = r
    · subst e
      simp [bx_f]
    · have e' : ((q.1 == r.1) && ((q.2 == r.2) && true)) = false := by
        have : ¬ (q.1 = r.1 ∧ q.2 = r.2) := fun h => e (Prod.ext h.1 h.2)
        simpa using this
      rw [e']
      cases h5 : Q.isq q.1 q.2 <;> cases h6 : Q.isq r.1 r.2 <;> simp [e, bx_t, bx_f]
theorem alike_ref (X Y : List (Int × Int)) (hl : X.length < 9223372036854775807) (k : KB) : serinetteref05_Alike (X.map qpc) (Y.map qpc) k = k (alike X Y) := by
  unfold serinetteref05_Alike B_serinetteref05_Alike
  simp only [List.length_map, φ_serinetteref05_Alike_l4]
  by_cases h : X.length = Y.length
  · have h1 : (((X.length : Nat) : Int) != ((Y.length : Nat) : Int)) = false := by simp [h]
    rw [h1, bx_f]
    have := alike_loop X Y hl (k, k true) X Y [] [] rfl rfl rfl h
    rw [show Int.toNat (((X.length : Nat) : Int) - 0) + 1 = X.length + 1 by omega]
    refine Eq.trans this ?_
    cases alike X Y <;> rfl
  · have h1 : (((X.length : Nat) : Int) != ((Y.length : Nat) : Int)) = true := by simp; omega
    rw [h1, bx_t]
    cases h2 : alike X Y with
    | false => rfl
    | true => exact absurd (alike_len h2) h
end Go.Proofs.Ytdfhakhapblhgaa
