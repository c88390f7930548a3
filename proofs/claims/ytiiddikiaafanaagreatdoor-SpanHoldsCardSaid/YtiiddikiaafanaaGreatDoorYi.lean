import Derived.Test.YtiiddikiaafanaaGreatDoorPkc
import Derived.Test.YtiiddikiaafanaaGreatDoorYh
set_option linter.all false
/-
  Numbers as plain functions: binary digits by the specification.
-/
namespace Go.Proofs.YtiiddikiaafanaaGreatDoor
open Go.Pv Go.RowKit
namespace Y
theorem digit_eq {n : Int} {j : Nat} (hj : j ≤ 32) (hn : -1073741824 ≤ n ∧ n ≤ 1073741824) (k : Int → Option DV) : s1_digit n j k = k (Q.dig n j) := by
  have hp := Q.two_pow_bd j hj
  have h1 := Q.shr_bd hn j
  unfold s1_digit B_s1_digit
  rw [nneg, cf, Int.toNat_natCast, mi (by omega), Int.one_mul, iw (x := 2 ^ j) (by omega), fdiv_eq (by omega) (by omega), fdiv_eq (by omega) (by omega), iw (x := 2 * (n / 2 ^ j / 2)) (by omega), iw (by omega)]
  congr 1; unfold Q.dig; omega
/-- The way of joining digits, by its name. -/
def jn (s : ByteArray) : Int → Int → Int := if (s.toList == [97, 110, 100]) = true then Q.land else if (s.toList == [111, 114]) = true then Q.lor else Q.lxor
theorem jn_01 (s : ByteArray) : ∀ x y : Int, (x = 0 ∨ x = 1) → (y = 0 ∨ y = 1) → (jn s x y = 0 ∨ jn s x y = 1) := by
  unfold jn; split
  · exact Q.land_01
  · split
    · exact Q.lor_01
    · exact Q.lxor_01
theorem logic_loop (s : ByteArray) (a b : Int) (ha : -1073741824 ≤ a ∧ a ≤ 1073741824) (hb : -1073741824 ≤ b ∧ b ≤ 1073741824) (p) (κ : Int → Option DV) : ∀ (N j : Nat), j ≤ 33 → 33 - j < N →
    LF (F_s1_logic_l3 s1_digit p) N (.h0 s a b (Q.part (jn s) a b j) j) κ = κ (Q.logic (jn s) a b)
  | 0, j, _, h => absurd h (by omega)
  | N + 1, j, h1, h2 => by
    have ih := logic_loop s a b ha hb p κ N (j + 1)
    have hu : LF (F_s1_logic_l3 s1_digit p) (N + 1) (.h0 s a b (Q.part (jn s) a b j) j) κ = B_s1_logic_l3_h0 s1_digit p s a b (Q.part (jn s) a b j) j (fun x => LF (F_s1_logic_l3 s1_digit p) N x κ) κ := rfl
    rw [hu]
    unfold B_s1_logic_l3_h0
    by_cases h3 : j ≤ 32
    · have hS0 : Q.part (jn s) a b j = Q.lsum (jn s) a b j := by unfold Q.part; rw [if_pos h3]
      have hSb := Q.lsum_bd (jn s) (jn_01 s) a b j
      have hp := Q.two_pow_bd j h3
      have hx := Q.dig_01 a j
      have hy := Q.dig_01 b j
      have hz := jn_01 s _ _ hx hy
      rw [decide_eq_true (by omega), ct, digit_eq h3 ha, digit_eq h3 hb]
      have yj : IntKind.wrap .i64 ((j : Int) + 1) = ((j + 1 : Nat) : Int) := by rw [iw (by omega)]; omega
      have yp : IntKind.wrap .i64 (1 * 2 ^ (min (Int.toNat (j : Int)) (IntKind.bits .i64))) = 2 ^ j := by rw [Int.toNat_natCast, mi (by omega), Int.one_mul, iw (by omega)]
      have e1 : IntKind.wrap .i64 (Q.dig a j * Q.dig b j) = Q.land (Q.dig a j) (Q.dig b j) := by rcases hx with h | h <;> rcases hy with h' | h' <;> rw [h, h'] <;> decide
      have e2 : IntKind.wrap .i64 (IntKind.wrap .i64 (Q.dig a j + Q.dig b j) - Q.land (Q.dig a j) (Q.dig b j)) = Q.lor (Q.dig a j) (Q.dig b j) := by rcases hx with h | h <;> rcases hy with h' | h' <;> rw [h, h'] <;> decide
      have e3 : IntKind.wrap .i64 (IntKind.wrap .i64 (Q.dig a j + Q.dig b j) - IntKind.wrap .i64 (IntKind.wrap .i64 (2 * Q.dig a j) * Q.dig b j)) = Q.lxor (Q.dig a j) (Q.dig b j) := by rcases hx with h | h <;> rcases hy with h' | h' <;> rw [h, h'] <;> decide
      simp only [tl, yj, yp, e1, e2, e3, nneg, cf]
      -- one digit more
      have R : ∀ z, jn s (Q.dig a j) (Q.dig b j) = z → (bif (j : Int) == 32 then LF (F_s1_logic_l3 s1_digit p) N (.h0 s a b (IntKind.wrap .i64 (Q.part (jn s) a b j - IntKind.wrap .i64 (z * 4294967296))) ((j + 1 : Nat) : Int)) κ else LF (F_s1_logic_l3 s1_digit p) N (.h0 s a b (IntKind.wrap .i64 (Q.part (jn s) a b j + IntKind.wrap .i64 (z * 2 ^ j))) ((j + 1 : Nat) : Int)) κ) = κ (Q.logic (jn s) a b) := by
        rintro z hzz
        rw [hzz] at hz
        by_cases h32 : j = 32
        · subst h32
          have hn : Q.part (jn s) a b (32 + 1) = Q.lsum (jn s) a b 32 - z * 4294967296 := by unfold Q.part; rw [if_neg (by omega), ← hzz]; rfl
          have hS32 : (2 : Int) ^ 32 = 4294967296 := by decide
          rw [hS32] at hSb
          rw [show (((32 : Nat) : Int) == 32) = true by decide, ct, iw (x := z * 4294967296) (by rcases hz with h | h <;> rw [h] <;> decide), hS0, iw (by rcases hz with h | h <;> rw [h] <;> omega), ← hn]
          exact ih (by omega) (by omega)
        · have hn : Q.part (jn s) a b (j + 1) = Q.lsum (jn s) a b j + z * 2 ^ j := by unfold Q.part; rw [if_pos (by omega), ← hzz]; rfl
          rw [show ((j : Int) == 32) = false by rw [beq_eq_false_iff_ne]; omega, cf, iw (x := z * 2 ^ j) (by rcases hz with h | h <;> rw [h] <;> omega), hS0, iw (by rcases hz with h | h <;> rw [h] <;> omega), ← hn]
          exact ih (by omega) (by omega)
      cases g1 : (s.toList == [97, 110, 100])
      · cases g2 : (s.toList == [111, 114])
        · rw [cf, cf]; exact R _ (by unfold jn; rw [g1, g2]; rfl)
        · rw [cf, ct]; exact R _ (by unfold jn; rw [g1, g2]; rfl)
      · rw [ct]; exact R _ (by unfold jn; rw [g1]; rfl)
    · rw [decide_eq_false (by omega), cf]
      unfold Q.part; rw [if_neg h3]
theorem logic_eq (s : ByteArray) {a b : Int} (ha : -1073741824 ≤ a ∧ a ≤ 1073741824) (hb : -1073741824 ≤ b ∧ b ≤ 1073741824) (k : Int → Option DV) : s1_logic s a b k = k (Q.logic (jn s) a b) :=
  logic_loop s a b ha hb _ k 34 0 (by omega) (by omega)
theorem swhole_eq {n : Int} (h : I64 n) (k : Int → Int → Option DV) : s1_Whole n k = k (Q.mk n 1).1 (Q.mk n 1).2 := by
  unfold s1_Whole
  rw [decide_eq_true h, ct]
theorem shl_loop (n p x2 x3 x4 : Int) (hp : 0 ≤ p ∧ p ≤ 62) (κ : Int → Int → Int → Int → Option DV) : ∀ (N j : Nat), (j : Int) ≤ p → p - j < N →
    LF (F_s1_Bits_l13 s1_None s1_Whole s1_logic s1_Mul s1_FloorDiv s1_both) N (.h0 j p x2 x3 x4 (Q.dbl n j).1 (Q.dbl n j).2) κ = κ x3 x4 (Q.dbl n p.toNat).1 (Q.dbl n p.toNat).2
  | 0, j, _, h => absurd h (by omega)
  | N + 1, j, h1, h2 => by
    have ih := shl_loop n p x2 x3 x4 hp κ N (j + 1)
    have hu : LF (F_s1_Bits_l13 s1_None s1_Whole s1_logic s1_Mul s1_FloorDiv s1_both) (N + 1) (.h0 j p x2 x3 x4 (Q.dbl n j).1 (Q.dbl n j).2) κ = bif decide ((j : Int) < p) then s1_Whole 2 (fun r9 r10 => s1_Mul (Q.dbl n j).1 (Q.dbl n j).2 r9 r10 (fun r11 r12 => LF (F_s1_Bits_l13 s1_None s1_Whole s1_logic s1_Mul s1_FloorDiv s1_both) N (.h0 (IntKind.wrap .i64 ((j : Int) + 1)) p x2 x3 x4 r11 r12) κ)) else κ x3 x4 (Q.dbl n j).1 (Q.dbl n j).2 := rfl
    rw [hu]
    by_cases h3 : (j : Int) < p
    · have yj : IntKind.wrap .i64 ((j : Int) + 1) = ((j + 1 : Nat) : Int) := by rw [iw (by omega)]; omega
      have e2 : Q.mk 2 1 = (2, 1) := by decide
      rw [decide_eq_true h3, ct, swhole_eq (by decide), e2, yj]
      unfold s1_Mul
      rw [show Q.mul ((Q.dbl n j).1, (Q.dbl n j).2) (2, 1) = Q.dbl n (j + 1) from Q.dbl_succ n j]
      exact ih (by omega) (by omega)
    · rw [decide_eq_false h3, cf, show p.toNat = j by omega]
theorem shr_loop (n p x3 x4 x5 : Int) (hn : -1073741824 ≤ n ∧ n ≤ 1073741824) (hp : 0 ≤ p ∧ p ≤ 62) (κ : Int → Int → Int → Option DV) : ∀ (N j : Nat), (j : Int) ≤ p → p - j < N →
    LF (F_s1_Bits_l22 s1_None s1_Whole s1_logic s1_Mul s1_FloorDiv s1_both) N (.h0 (n / 2 ^ j) j p x3 x4 x5) κ = κ (n / 2 ^ p.toNat) x4 x5
  | 0, j, _, h => absurd h (by omega)
  | N + 1, j, h1, h2 => by
    have ih := shr_loop n p x3 x4 x5 hn hp κ N (j + 1)
    have hu : LF (F_s1_Bits_l22 s1_None s1_Whole s1_logic s1_Mul s1_FloorDiv s1_both) (N + 1) (.h0 (n / 2 ^ j) j p x3 x4 x5) κ = bif decide ((j : Int) < p) then s1_FloorDiv (n / 2 ^ j) 2 (fun r => LF (F_s1_Bits_l22 s1_None s1_Whole s1_logic s1_Mul s1_FloorDiv s1_both) N (.h0 r (IntKind.wrap .i64 ((j : Int) + 1)) p x3 x4 x5) κ) else κ (n / 2 ^ j) x4 x5 := rfl
    rw [hu]
    have hb := Q.shr_bd hn j
    by_cases h3 : (j : Int) < p
    · have yj : IntKind.wrap .i64 ((j : Int) + 1) = ((j + 1 : Nat) : Int) := by rw [iw (by omega)]; omega
      rw [decide_eq_true h3, ct, fdiv_eq (by omega) (by decide), yj, Q.half_succ]
      exact ih (by omega) (by omega)
    · rw [decide_eq_false h3, cf, show p.toNat = j by omega]
theorem bits_eq (s : ByteArray) (an ad bn bd : Int) (k : Int → Int → Option DV) : s1_Bits s an ad bn bd k = k (Q.bts s.toList (an, ad) (bn, bd)).1 (Q.bts s.toList (an, ad) (bn, bd)).2 := by
  unfold s1_Bits B_s1_Bits
  have nu : ∀ κ, s1_None κ = κ 0 0 := fun κ => rfl
  have bu : ∀ κ, s1_both an ad bn bd κ = κ (Q.both (an, ad) (bn, bd)) := fun κ => rfl
  have T : ∀ {a b : Int × Int}, a = b → k a.1 a.2 = k b.1 b.2 := by rintro a b rfl; rfl
  rw [bu]
  simp only [nu, tl]
  cases hq : Q.both (an, ad) (bn, bd)
  · rw [Bool.not_false, Bool.not_true, cf]
    exact T (a := (0, 0)) (by unfold Q.bts; rw [hq]; rfl)
  by_cases h1 : ad = 1
  rotate_left
  · rw [Bool.not_true, Bool.not_false, ct, bne_iff_ne.2 h1, Bool.not_true, cf]
    exact T (a := (0, 0)) (by unfold Q.bts; simp [h1])
  by_cases h2 : bd = 1
  rotate_left
  · rw [Bool.not_true, Bool.not_false, ct, show (ad != 1) = false by simp [h1], Bool.not_false, ct, bne_iff_ne.2 h2, ct]
    exact T (a := (0, 0)) (by unfold Q.bts; simp [h2])
  subst h1; subst h2
  have hb : Q.isq an 1 = true ∧ Q.isq bn 1 = true := by unfold Q.both at hq; rw [Bool.and_eq_true] at hq; exact hq
  have a1 := Q.isq_one.1 hb.1
  have b1 := Q.isq_one.1 hb.2
  have e1 : ((1 : Int) != 1) = false := by decide
  have lb := fun f hf => Q.logic_bd f hf an bn
  have ej := Q.logic_bd (jn s) (jn_01 s) an bn
  simp only [e1, Bool.not_true, Bool.not_false, ct, cf, logic_eq s (show -1073741824 ≤ an ∧ an ≤ 1073741824 by omega) (show -1073741824 ≤ bn ∧ bn ≤ 1073741824 by omega), swhole_eq (show I64 (Q.logic (jn s) an bn) by unfold I64; omega)]
  unfold Q.bts
  rw [hq]
  simp only [Bool.true_and, show ((1 : Int) == 1) = true by decide, if_true]
  -- shifts
  have SL : (bif !(decide (bn < 0)) then (bif decide (bn > 62) then k 0 0 else (LF (F_s1_Bits_l13 s1_None s1_Whole s1_logic s1_Mul s1_FloorDiv s1_both) (φ_s1_Bits_l13 (X_s1_Bits_l13.h0 0 bn 1 0 0 an 1)) (X_s1_Bits_l13.h0 0 bn 1 0 0 an 1) (fun z0 z1 z2 z3 => k z2 z3))) else k 0 0) = k (Q.sh false an bn).1 (Q.sh false an bn).2 := by
    by_cases g1 : bn < 0
    · rw [decide_eq_true g1, Bool.not_true, cf]
      exact T (a := (0, 0)) (by unfold Q.sh; rw [if_pos (.inl g1)])
    · rw [decide_eq_false g1, Bool.not_false, ct]
      by_cases g2 : bn > 62
      · rw [decide_eq_true g2, ct]
        exact T (a := (0, 0)) (by unfold Q.sh; rw [if_pos (.inr g2)])
      · rw [decide_eq_false g2, cf]
        have := shl_loop an bn 1 0 0 (by omega) (fun _ _ z2 z3 => k z2 z3) (Int.toNat (bn - 0) + 1) 0 (by omega) (by omega)
        rw [Q.dbl_zero hb.1] at this
        refine Eq.trans this (T ?_)
        unfold Q.sh; rw [if_neg (by omega), if_neg (by decide)]
  have SR : (bif !(decide (bn < 0)) then (bif decide (bn > 62) then k 0 0 else (LF (F_s1_Bits_l22 s1_None s1_Whole s1_logic s1_Mul s1_FloorDiv s1_both) (φ_s1_Bits_l22 (X_s1_Bits_l22.h0 an 0 bn 1 0 0)) (X_s1_Bits_l22.h0 an 0 bn 1 0 0) (fun z0 z1 z2 => s1_Whole z0 (fun r20 r21 => k r20 r21)))) else k 0 0) = k (Q.sh true an bn).1 (Q.sh true an bn).2 := by
    by_cases g1 : bn < 0
    · rw [decide_eq_true g1, Bool.not_true, cf]
      exact T (a := (0, 0)) (by unfold Q.sh; rw [if_pos (.inl g1)])
    · rw [decide_eq_false g1, Bool.not_false, ct]
      by_cases g2 : bn > 62
      · rw [decide_eq_true g2, ct]
        exact T (a := (0, 0)) (by unfold Q.sh; rw [if_pos (.inr g2)])
      · rw [decide_eq_false g2, cf]
        have := shr_loop an bn 1 0 0 (by omega) (by omega) (fun z0 _ _ => s1_Whole z0 (fun r20 r21 => k r20 r21)) (Int.toNat (bn - 0) + 1) 0 (by omega) (by omega)
        rw [Int.pow_zero, Int.ediv_one] at this
        have hs := Q.shr_bd (n := an) (by omega) bn.toNat
        refine Eq.trans this ?_
        rw [swhole_eq (by unfold I64; omega)]
        exact T (by unfold Q.sh; rw [if_neg (by omega), if_pos rfl])
  simp only [SL, SR]
  unfold jn
  cases g1 : (s.toList == [97, 110, 100])
  · cases g2 : (s.toList == [111, 114])
    · cases g3 : (s.toList == [120, 111, 114])
      · cases g4 : (s.toList == [115, 104, 108])
        · cases g5 : (s.toList == [115, 104, 114]) <;> simp [-cond_true, -cond_false, ct, cf]
        · simp [-cond_true, -cond_false, ct, cf]
      · simp [-cond_true, -cond_false, ct, cf]
    · simp [-cond_true, -cond_false, ct, cf]
  · simp [-cond_true, -cond_false, ct, cf]
end Y
end Go.Proofs.YtiiddikiaafanaaGreatDoor
