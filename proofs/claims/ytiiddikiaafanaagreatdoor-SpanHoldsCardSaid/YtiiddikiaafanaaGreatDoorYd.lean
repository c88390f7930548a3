import Derived.Test.YtiiddikiaafanaaGreatDoorPc
import Derived.Test.YtiiddikiaafanaaGreatDoorYa
set_option linter.all false
/-
  Formats as plain functions: the size, what is below, what is rounded.
-/
namespace Go.Proofs.YtiiddikiaafanaaGreatDoor
open Go.Pv Go.RowKit
namespace Y
theorem iw {x : Int} (h : -9223372036854775808 ≤ x ∧ x ≤ 9223372036854775807) : IntKind.wrap .i64 x = x := Z.i64_in x h
theorem uw {x : Int} (h : 0 ≤ x ∧ x ≤ 18446744073709551615) : IntKind.wrap .u64 x = x := IntWalk.u64_in _ (by omega)
theorem mi {n : Nat} (h : n ≤ 64) : min n (IntKind.bits .i64) = n := by show min n 64 = n; omega
theorem mu {n : Nat} (h : n ≤ 64) : min n (IntKind.bits .u64) = n := by show min n 64 = n; omega
theorem tl (l : List UInt8) : ByteArray.toList ⟨l.toArray⟩ = l := by rw [ByteArray.toList_eq]
theorem nneg (a : Nat) : decide ((a : Int) < 0) = false := decide_eq_false (by omega)
theorem ct {α : Type} (a b : α) : (bif true then a else b) = a := Eq.trans (Eq.refl a) (Eq.refl a)
theorem cf {α : Type} (a b : α) : (bif false then a else b) = b := Eq.trans (Eq.refl b) (Eq.refl b)
theorem size_eq (n d : Int) (hn : -4611686018427387904 ≤ n ∧ n ≤ 4611686018427387904) (k : Int → Option DV) : quant_exact_size n d k = k n.natAbs := by
  unfold quant_exact_size B_quant_exact_size
  rw [iw (x := 0 - n) (by omega)]
  congr 1
  split <;> rw [uw (by omega)] <;> omega
theorem isBelow_eq (n d e : Int) (hn : -4611686018427387904 ≤ n ∧ n ≤ 4611686018427387904) (hd : 1 ≤ d ∧ d ≤ 1152921504606846976) (he : -60 ≤ e ∧ e ≤ 60) (k : Bool → Option DV) : quant_exact_isBelow n d e k = k (Z.below n d e) := by
  unfold quant_exact_isBelow B_quant_exact_isBelow
  simp only [size_eq n d hn]
  by_cases h : e < 0
  · obtain ⟨j, rfl⟩ : ∃ j : Nat, e = -(j : Int) := ⟨(-e).toNat, by omega⟩
    have hp := Z.p2_pos j
    rw [iw (x := 0 - -(j : Int)) (by omega), iw (x := d - 1) (by omega), uw (x := d - 1) (by omega), show (0 - -(j : Int)) = (j : Int) by omega, nneg, decide_eq_true h, cond_true, cond_false, Int.toNat_natCast, mu (by omega), Int.fdiv_eq_ediv_of_nonneg _ (by omega), Z.below_neg, Z.le_shr]
  · obtain ⟨j, rfl⟩ := Int.eq_ofNat_of_zero_le (show 0 ≤ e by omega)
    have hp := Z.p2_pos j
    rw [uw (x := d) (by omega), nneg, cond_false, cond_false, Int.toNat_natCast, mu (by omega), Int.fdiv_eq_ediv_of_nonneg _ (by omega), Z.below_pos, Z.shr_lt]
theorem mul64_eq {x y : Int} (hx : 0 ≤ x ∧ x < 18446744073709551616) (hy : 0 ≤ y ∧ y < 18446744073709551616) (k : Int → Int → Option DV) : bits_Mul64 x y k = k (x * y / 18446744073709551616) (x * y % 18446744073709551616) := by
  unfold bits_Mul64
  rw [decide_eq_true ⟨hx, hy⟩, cond_true]
theorem div64_eq {P D : Int} (hD : 1 ≤ D ∧ D < 18446744073709551616) (hP : 0 ≤ P ∧ P < D * 18446744073709551616) (k : Int → Int → Option DV) : bits_Div64 (P / 18446744073709551616) (P % 18446744073709551616) D k = k (P / D) (P % D) := by
  have e : P / 18446744073709551616 * 18446744073709551616 + P % 18446744073709551616 = P := by omega
  have h1 : 0 ≤ P / 18446744073709551616 ∧ P / 18446744073709551616 < D := by omega
  have h2 : 0 ≤ P % 18446744073709551616 ∧ P % 18446744073709551616 < 18446744073709551616 := by omega
  unfold bits_Div64
  rw [decide_eq_true ⟨h1, h2, hD.2⟩, cond_true, e]
theorem rounded_eq (m : Nat) (hm : m ≤ 2) (n d e : Int) (hn : -2305843009213693952 ≤ n ∧ n ≤ 2305843009213693952) (hd : 1 ≤ d ∧ d ≤ 2305843009213693952) (he : -60 ≤ e ∧ e ≤ 60)
    (hk : (n.natAbs : Int) * 2 ^ e.toNat ≤ 2305843009213693952 * (d * 2 ^ (-e).toNat)) (hD : d * 2 ^ (-e).toNat ≤ 2305843009213693952) (k : Int → Option DV) : quant_exact_rounded n d e (rnm m) k = k (Z.rndE m n d e) := by
  unfold quant_exact_rounded B_quant_exact_rounded Z.rndE
  have a1 : (if IntKind.wrap .i64 (0 - e) > 0 then IntKind.wrap .i64 (0 - e) else 0) = (((-e).toNat : Nat) : Int) := by rw [iw (by omega)]; split <;> omega
  have a2 : (if e > 0 then e else 0) = ((e.toNat : Nat) : Int) := by split <;> omega
  have hA : (-e).toNat ≤ 60 := by omega
  have hB : e.toNat ≤ 60 := by omega
  simp only [a1, a2, size_eq n d (by omega), nneg, cf, Int.toNat_natCast, uw (x := d) (by omega)]
  generalize (-e).toNat = A at *
  generalize e.toNat = B at *
  rw [mu (n := A) (by omega), mu (n := B) (by omega)]
  have pA := Z.p2_pos A
  have pB := Z.p2_bd B (by omega)
  have hD1 : 1 ≤ d * 2 ^ A := by have := Int.mul_pos (show 0 < d by omega) (show (0 : Int) < 2 ^ A by omega); omega
  have hs : n * 2 ^ B = if n < 0 then -((n.natAbs : Int) * 2 ^ B) else (n.natAbs : Int) * 2 ^ B := by
    split
    · rw [← Int.neg_mul]; congr 1; omega
    · congr 1; omega
  have hs0 : n < 0 → 0 < (n.natAbs : Int) * 2 ^ B := fun h => Int.mul_pos (by omega) (by omega)
  have hs1 : 0 ≤ (n.natAbs : Int) * 2 ^ B := Int.mul_nonneg (by omega) (by omega)
  rw [uw (x := 1 * 2 ^ B) (by omega), Int.one_mul, uw (x := d * 2 ^ A) (by omega), mul64_eq (by omega) (by omega), hs]
  generalize d * 2 ^ A = D at *
  generalize (n.natAbs : Int) * 2 ^ B = P at *
  rw [div64_eq (by omega) (by omega)]
  have hK0 : 0 ≤ P / D := Int.ediv_nonneg hs1 (by omega)
  have hK1 : P / D ≤ 2305843009213693952 := by
    have h1 : P < (2305843009213693952 + 1) * D := by rw [Int.add_mul]; omega
    have := (Int.ediv_lt_iff_lt_mul (show 0 < D by omega)).2 h1
    omega
  have hT0 := Int.emod_nonneg P (show D ≠ 0 by omega)
  have hT1 := Int.emod_lt_of_pos P (show 0 < D by omega)
  have rn := fun h : n < 0 => Z.rnd_neg m P D (by omega) (hs0 h)
  have rp := Z.rnd_pos m P D (by omega) hs1
  generalize P / D = K at *
  generalize P % D = T at *
  have u1 : IntKind.wrap .u64 (K + 1) = K + 1 := uw (by omega)
  have u2 : IntKind.wrap .i64 (K + 1) = K + 1 := iw (by omega)
  have u3 : IntKind.wrap .i64 K = K := iw (by omega)
  have u4 : IntKind.wrap .i64 (0 - (K + 1)) = -(K + 1) := by rw [iw (by omega)]; omega
  have u5 : IntKind.wrap .i64 (0 - K) = -K := by rw [iw (by omega)]; omega
  have u6 : IntKind.wrap .u64 (2 * T) = 2 * T := uw (by omega)
  have u7 : Int.tmod K 2 = K % 2 := Int.tmod_eq_emod_of_nonneg hK0
  simp only [u1, u2, u3, u4, u5, u6, u7]
  have hcase : m = 0 ∨ m = 1 ∨ m = 2 := by omega
  by_cases h0 : n < 0
  · rw [if_pos h0, rn h0]
    rcases hcase with rfl | rfl | rfl
    · by_cases h1 : T > 0 <;> simp [-cond_true, -cond_false, ct, cf, rnm, tl, h0, h1]
    · by_cases h1 : D < 2 * T
      · simp [-cond_true, -cond_false, ct, cf, rnm, tl, h0, h1]
      · by_cases h2 : 2 * T = D
        · rcases Int.emod_two_eq K with h3 | h3 <;> simp [-cond_true, -cond_false, ct, cf, rnm, tl, h0, h1, h2, h3]
        · simp [-cond_true, -cond_false, ct, cf, rnm, tl, h0, h1, h2, beq_eq_false_iff_ne.2 h2]
    · simp [-cond_true, -cond_false, ct, cf, rnm, tl, h0]
  · rw [if_neg h0, rp]
    rcases hcase with rfl | rfl | rfl
    · by_cases h1 : T > 0 <;> simp [-cond_true, -cond_false, ct, cf, rnm, tl, h0, h1]
    · by_cases h1 : D < 2 * T
      · simp [-cond_true, -cond_false, ct, cf, rnm, tl, h0, h1]
      · by_cases h2 : 2 * T = D
        · rcases Int.emod_two_eq K with h3 | h3 <;> simp [-cond_true, -cond_false, ct, cf, rnm, tl, h0, h1, h2, h3]
        · simp [-cond_true, -cond_false, ct, cf, rnm, tl, h0, h1, h2, beq_eq_false_iff_ne.2 h2]
    · simp [-cond_true, -cond_false, ct, cf, rnm, tl, h0]
end Y
end Go.Proofs.YtiiddikiaafanaaGreatDoor

/-
  Formats as plain functions: what is valid, the ends, the step, what lies beyond.
-/
namespace Go.Proofs.YtiiddikiaafanaaGreatDoor
open Go.Pv Go.RowKit
namespace Y
abbrev I64 (x : Int) : Prop := -9223372036854775808 ≤ x ∧ x ≤ 9223372036854775807
theorem chain {p1 p2 p3 p4 q : Prop} [Decidable p1] [Decidable p2] [Decidable p3] [Decidable p4] [Decidable q] {x : Bool} (h : p1 → p2 → p3 → p4 → x = decide q) (k : Bool → Option DV) :
    (bif decide p1 then (bif decide p2 then (bif decide p3 then (bif decide p4 then (k x) else (k false)) else (k false)) else (k false)) else (k false)) = k (decide (p1 ∧ p2 ∧ p3 ∧ p4 ∧ q)) := by
  by_cases h1 : p1
  · by_cases h2 : p2
    · by_cases h3 : p3
      · by_cases h4 : p4
        · simp [h1, h2, h3, h4, h h1 h2 h3 h4]
        · simp [h1, h2, h3, h4]
      · simp [h1, h2, h3]
    · simp [h1, h2]
  · simp [h1]
theorem chA (I F : Int) (k : Bool → Option DV) : (bif decide (0 ≤ I) then (bif decide (I ≤ 30) then (bif decide (0 ≤ F) then (bif decide (F ≤ 30) then (k (decide (IntKind.wrap .i64 (I + F) ≤ 30))) else (k false)) else (k false)) else (k false)) else (k false)) = k (decide (0 ≤ I ∧ I ≤ 30 ∧ 0 ≤ F ∧ F ≤ 30 ∧ I + F ≤ 30)) :=
  chain (fun h1 h2 h3 h4 => by rw [iw (by omega)]) k
theorem chB (I F : Int) (k : Bool → Option DV) : (bif decide (1 ≤ I) then (bif decide (I ≤ 24) then (bif decide (0 ≤ F) then (bif decide (F ≤ 20) then (k (decide (IntKind.wrap .i64 (I + F) ≤ 30))) else (k false)) else (k false)) else (k false)) else (k false)) = k (decide (1 ≤ I ∧ I ≤ 24 ∧ 0 ≤ F ∧ F ≤ 20 ∧ I + F ≤ 30)) :=
  chain (fun h1 h2 h3 h4 => by rw [iw (by omega)]) k
theorem qsizes_eq (k0 r o : ByteArray) (I F : Int) (k : Bool → Option DV) : quant_hasSizes k0 I F r o k = k (Z.hsz k0 I F) := by
  unfold quant_hasSizes B_quant_hasSizes Z.hsz
  rw [chA I F k, chB I F k]
  simp only [tl]
  cases (k0.toList == [102, 105, 120]) <;> cases (k0.toList == [102, 108, 111, 97, 116]) <;> rfl
theorem qround_eq (k0 r o : ByteArray) (I F : Int) (k : Bool → Option DV) : quant_hasRound k0 I F r o k = k (Z.hrd r) := by
  unfold quant_hasRound B_quant_hasRound Z.hrd
  simp only [tl]
  cases (r.toList == [102, 108, 111, 111, 114]) <;> cases (r.toList == [110, 101, 97, 114]) <;> rfl
theorem qover_eq (k0 r o : ByteArray) (I F : Int) (k : Bool → Option DV) : quant_hasOver k0 I F r o k = k (Z.hov k0 o) := by
  unfold quant_hasOver B_quant_hasOver Z.hov
  simp only [tl]
  cases (o.toList == [115, 97, 116]) <;> cases (o.toList == [110, 111, 110, 101]) <;> cases (o.toList == [119, 114, 97, 112]) <;> rfl
theorem qvalid_eq (k0 r o : ByteArray) (I F : Int) (k : Bool → Option DV) : quant_Valid k0 I F r o k = k (Z.vld k0 r o I F) := by
  unfold quant_Valid B_quant_Valid Z.vld
  simp only [qsizes_eq, qround_eq, qover_eq]
  cases Z.hsz k0 I F <;> cases Z.hrd r <;> rfl
theorem rvalid_eq (k0 r o : ByteArray) (I F : Int) (k : Bool → Option DV) : s2_Valid k0 I F r o k = k (Z.vld k0 r o I F) := by
  unfold s2_Valid B_s2_Valid Z.vld Z.hsz Z.hrd Z.hov
  simp only [tl, ge_iff_le, chA, chB]
  generalize decide (0 ≤ I ∧ I ≤ 30 ∧ 0 ≤ F ∧ F ≤ 30 ∧ I + F ≤ 30) = a
  generalize decide (1 ≤ I ∧ I ≤ 24 ∧ 0 ≤ F ∧ F ≤ 20 ∧ I + F ≤ 30) = b
  have hcd : (k0.toList == [102, 105, 120]) = true → (k0.toList == [102, 108, 111, 97, 116]) = false := fun h => lit_ne h (by decide)
  generalize (k0.toList == [102, 105, 120]) = c at *
  generalize (k0.toList == [102, 108, 111, 97, 116]) = d at *
  generalize (r.toList == [102, 108, 111, 111, 114]) = e
  generalize (r.toList == [110, 101, 97, 114]) = f
  generalize (r.toList == [122, 101, 114, 111]) = g
  generalize (o.toList == [115, 97, 116]) = p
  generalize (o.toList == [110, 111, 110, 101]) = q
  generalize (o.toList == [119, 114, 97, 112]) = s
  cases e <;> cases f <;> cases g <;> first | rfl | skip
  all_goals cases c <;> cases d <;> cases p <;> cases q <;> cases s <;> first | rfl | (cases a <;> cases b <;> first | rfl | (have := hcd rfl; contradiction))
theorem rmk_eq {n d : Int} (hn : I64 n) (hd : I64 d) (k : Int → Int → Option DV) : ratio_Make n d k = k (Q.mk n d).1 (Q.mk n d).2 := by
  unfold ratio_Make
  rw [decide_eq_true ⟨hn, hd⟩, ct]
theorem power_eq (m x : Int) (hx : -30 ≤ x ∧ x ≤ 30) (hm : -4611686018427387904 ≤ m * 2 ^ x.toNat ∧ m * 2 ^ x.toNat ≤ 4611686018427387904) (k : Int → Int → Option DV) : quant_power m x k = k (Z.pw m x).1 (Z.pw m x).2 := by
  unfold quant_power B_quant_power Z.pw
  by_cases h : x < 0
  · obtain ⟨j, rfl⟩ : ∃ j : Nat, x = -(j : Int) := ⟨(-x).toNat, by omega⟩
    have hp := Z.p2_30 j (by omega)
    rw [show (-(j : Int)).toNat = 0 by omega, Int.pow_zero, Int.mul_one] at hm
    rw [decide_eq_true h, ct, if_pos h, iw (x := 0 - -(j : Int)) (by omega), show (0 - -(j : Int)) = (j : Int) by omega, nneg, cf, Int.toNat_natCast, mi (by omega), Int.one_mul, iw (by omega), rmk_eq (by omega) (by omega), show (- -(j : Int)).toNat = j by omega]
  · obtain ⟨j, rfl⟩ := Int.eq_ofNat_of_zero_le (show 0 ≤ x by omega)
    rw [Int.toNat_natCast] at hm
    rw [nneg, cf, cf, if_neg h, Int.toNat_natCast, mi (by omega), iw (by omega), rmk_eq (by omega) (by decide)]
theorem half_eq (k0 r o : ByteArray) {I F : Nat} (h : I + F ≤ 30) (k : Int → Option DV) : quant_half k0 I F r o k = k (2 ^ (I + F)) := by
  have hp := pb_of h
  have hh := hp.h
  unfold quant_half B_quant_half
  rw [iw (x := (I : Int) + F) (by omega), show ((I : Int) + (F : Int)) = ((I + F : Nat) : Int) by omega, nneg, cf, Int.toNat_natCast, mi (by omega), Int.one_mul, iw (by omega)]
theorem steps_eq (k0 r o : ByteArray) {I F : Nat} (h : I + F ≤ 30) (a : Int) (ha : -4611686018427387904 ≤ a ∧ a ≤ 4611686018427387904) (k : Int → Int → Option DV) : quant_steps k0 I F r o a k = k (Q.mk a (2 ^ F)).1 (Q.mk a (2 ^ F)).2 := by
  unfold quant_steps B_quant_steps
  rw [iw (x := 0 - (F : Int)) (by omega), power_eq a (0 - (F : Int)) (by omega) (by rw [show (0 - (F : Int)).toNat = 0 by omega, Int.pow_zero, Int.mul_one]; exact ha)]
  have e : Z.pw a (0 - (F : Int)) = Q.mk a (2 ^ F) := by
    unfold Z.pw
    by_cases h0 : F = 0
    · subst h0; rw [if_neg (by omega)]; simp
    · rw [if_pos (by omega), show (-(0 - (F : Int))).toNat = F by omega]
  rw [e]
theorem greatest_eq (k0 r o : ByteArray) (I F : Int) (k : Int → Int → Option DV) : quant_Greatest k0 I F r o k = k (Z.grtQ k0 r o I F).1 (Z.grtQ k0 r o I F).2 := by
  unfold quant_Greatest B_quant_Greatest Z.grtQ
  rw [qvalid_eq]
  cases hv : Z.vld k0 r o I F
  · simp
  · obtain ⟨m, i, f, hm, hm2, hr, rfl, rfl, hs⟩ := vld_open hv
    have hp := pb_of hs
    have hi := hp.i; have hh := hp.h
    have ht := top_bd hs
    simp only [Bool.not_true, cf, tl, if_true, vld_float hv, nneg, Int.toNat_natCast]
    unfold Z.grt
    cases (k0.toList == [102, 105, 120])
    · rw [Bool.not_false, ct, mi (by omega), Int.one_mul, iw (x := 2 ^ i) (by omega), iw (x := 2 ^ i - 1) (by omega), power_eq _ _ (by omega) (by rw [Int.toNat_natCast]; omega)]
      unfold Z.pw
      rw [if_neg (by omega), Int.toNat_natCast, if_neg (by decide)]
    · rw [Bool.not_true, cf, half_eq _ _ _ hs, iw (x := 2 ^ (i + f) - 1) (by omega), steps_eq _ _ _ hs _ (by omega), if_pos rfl]
theorem neg_top {x : Int} (h : 0 ≤ x ∧ x ≤ 1073741824) : Q.neg (Q.mk x 1) = Q.mk (-x) 1 := by
  have hg := Q.mk_one (n := x) (by omega)
  rw [hg.1, (Q.mk_one (n := -x) (by omega)).1]
  unfold Q.neg; rw [hg.2]; rfl
theorem least_eq (k0 r o : ByteArray) (I F : Int) (k : Int → Int → Option DV) : quant_Least k0 I F r o k = k (Z.lstQ k0 r o I F).1 (Z.lstQ k0 r o I F).2 := by
  unfold quant_Least B_quant_Least Z.lstQ
  rw [qvalid_eq]
  cases hv : Z.vld k0 r o I F
  · simp
  · simp only [greatest_eq]
    unfold Z.grtQ
    rw [hv]
    obtain ⟨m, i, f, hm, hm2, hr, rfl, rfl, hs⟩ := vld_open hv
    have hp := pb_of hs
    have hi := hp.i; have hh := hp.h
    simp only [Bool.not_true, cf, tl, if_true, vld_float hv, Int.toNat_natCast]
    unfold Z.lst Z.grt ratio_Neg
    cases (k0.toList == [102, 105, 120])
    · rw [Bool.not_false, ct, if_neg (by decide), if_neg (by decide), neg_top (top_bd hs)]
    · rw [Bool.not_true, cf, half_eq _ _ _ hs, iw (x := 0 - 2 ^ (i + f)) (by omega), steps_eq _ _ _ hs _ (by omega), if_pos rfl, Int.zero_sub]
theorem step_eq (k0 r o : ByteArray) (I F : Int) (k : Int → Int → Option DV) : quant_Step k0 I F r o k = k (Z.stpQ k0 r o I F).1 (Z.stpQ k0 r o I F).2 := by
  unfold quant_Step B_quant_Step Z.stpQ
  rw [qvalid_eq]
  cases hv : Z.vld k0 r o I F
  · simp
  · obtain ⟨m, i, f, hm, hm2, hr, rfl, rfl, hs⟩ := vld_open hv
    simp only [Bool.not_true, cf, if_true, Int.toNat_natCast]
    rw [steps_eq _ _ _ hs _ (by omega)]
theorem beyond_eq {k0 r o : ByteArray} {I F : Nat} (n d : Int) (hv : Z.vld k0 r o (I : Int) (F : Int) = true) (k : Int → Int → Option DV) : quant_beyond k0 I F r o n d k = k (Z.bey (ovn o) (k0.toList == [102, 105, 120]) I F (decide (n < 0))).1 (Z.bey (ovn o) (k0.toList == [102, 105, 120]) I F (decide (n < 0))).2 := by
  unfold quant_beyond B_quant_beyond Z.bey
  simp only [tl, greatest_eq, least_eq]
  unfold Z.lstQ Z.grtQ
  rw [hv, if_pos rfl, if_pos rfl]
  have hn2 : ovn o = 2 ↔ (o.toList == [110, 111, 110, 101]) = true := by
    unfold ovn
    cases h1 : (o.toList == [110, 111, 110, 101])
    · cases h2 : (o.toList == [119, 114, 97, 112]) <;> simp
    · simp
  cases hn : (o.toList == [110, 111, 110, 101])
  · rw [if_neg (by rw [hn2, hn]; decide), cf]
    cases decide (n < 0)
    · rw [cf]; rfl
    · rw [ct]; rfl
  · rw [if_pos (hn2.2 hn), ct]
end Y
end Go.Proofs.YtiiddikiaafanaaGreatDoor

/-
  Formats as plain functions: what a fraction comes to, by the program.
-/
namespace Go.Proofs.YtiiddikiaafanaaGreatDoor
open Go.Pv Go.RowKit
namespace Y
theorem mask_eq (x : Int) {j : Nat} (hj : j ≤ 61) : IntKind.wrap .i64 ((BitVec.toNat (BitVec.ofInt (IntKind.bits .i64) x &&& BitVec.ofInt (IntKind.bits .i64) (2 * 2 ^ j - 1)) : Nat) : Int) = x % (2 * 2 ^ j) := by
  have e : (2 : Int) * 2 ^ j = 2 ^ (j + 1) := by rw [Int.pow_succ, Int.mul_comm]
  rw [e]; exact i64_mask x (j + 1) (by omega)
/-- What is rounded to a fix's steps: the premises of rounded. -/
theorem fix_prem {F : Nat} {t d : Int} (h : (t.natAbs : Int) * 2 ^ F ≤ 2305843009213693952 * d) (hd : 1 ≤ d ∧ d ≤ 1152921504606846976) : (t.natAbs : Int) * 2 ^ (F : Int).toNat ≤ 2305843009213693952 * (d * 2 ^ (-(F : Int)).toNat) ∧ d * 2 ^ (-(F : Int)).toNat ≤ 2305843009213693952 := by
  rw [show (F : Int).toNat = F by omega, show (-(F : Int)).toNat = 0 by omega, Int.pow_zero, Int.mul_one]
  exact ⟨h, by omega⟩
theorem fitFix_eq {k0 o : ByteArray} {m I F : Nat} (hm : m ≤ 2) (h : I + F ≤ 30) {n d : Int} (hn : -2305843009213693952 ≤ n ∧ n ≤ 2305843009213693952) (hd : 1 ≤ d ∧ d ≤ 1152921504606846976) (hv : Z.vld k0 (rnm m) o (I : Int) (F : Int) = true) (hk : (k0.toList == [102, 105, 120]) = true) (k : Int → Int → Option DV) :
    quant_fitFix k0 I F (rnm m) o n d k = k (Z.fixV (ovn o) m I F n d).1 (Z.fixV (ovn o) m I F n d).2 := by
  have hp := pb_of h
  have hh := hp.h
  have eI : IntKind.wrap .i64 ((I : Int) + 1) = ((I + 1 : Nat) : Int) := by rw [iw (by omega)]; omega
  have eR : Z.rndE m n d (F : Int) = Z.rnd m (n * 2 ^ F) d := Z.rndE_pos _ _ _ _
  have y0 : IntKind.wrap .i64 (0 - 2 ^ (I + F)) = -(2 ^ (I + F)) := by rw [iw (by omega)]; omega
  have y2 : IntKind.wrap .i64 (2 * 2 ^ (I + F)) = 2 * 2 ^ (I + F) := iw (by omega)
  have y3 : IntKind.wrap .i64 (2 * 2 ^ (I + F) - 1) = 2 * 2 ^ (I + F) - 1 := iw (by omega)
  have T : ∀ {a b : Int × Int}, a = b → k a.1 a.2 = k b.1 b.2 := by rintro a b rfl; rfl
  unfold quant_fitFix B_quant_fitFix
  simp only [eI, half_eq k0 (rnm m) o h, tl, y0, y2, y3, nneg, cf]
  rw [isBelow_eq n d _ (by omega) hd (by omega)]
  cases ho : (o.toList == [119, 114, 97, 112])
  · have h1 := ov_not ho
    simp only [Bool.not_false, ct, cf]
    cases hb : Z.below n d ((I + 1 : Nat) : Int)
    · rw [Bool.not_false, ct, beyond_eq n d hv, hk]
      exact T (by unfold Z.fixV; rw [if_neg h1, if_neg (Z.fix_over m I F n d (by omega) hb)])
    · obtain ⟨b1, b2, b3⟩ := fix_below (m := m) h hd.1 hb
      obtain ⟨c1, c2⟩ := fix_prem b1 hd
      rw [Bool.not_true, cf, rounded_eq m hm n d (F : Int) hn (by omega) (by omega) c1 c2]
      by_cases h2 : Z.rndE m n d (F : Int) < -(2 ^ (I + F))
      · rw [decide_eq_true h2, Bool.not_true, cf, beyond_eq n d hv, hk]
        exact T (by unfold Z.fixV; rw [if_neg h1, if_neg (by rw [← eR]; omega)])
      · rw [decide_eq_false h2, Bool.not_false, ct]
        by_cases h3 : Z.rndE m n d (F : Int) ≥ 2 ^ (I + F)
        · rw [decide_eq_true h3, ct, beyond_eq n d hv, hk]
          exact T (by unfold Z.fixV; rw [if_neg h1, if_neg (by rw [← eR]; omega)])
        · rw [decide_eq_false h3, cf, steps_eq _ _ _ h _ (by omega)]
          exact T (by unfold Z.fixV; rw [if_neg h1, if_pos (by rw [← eR]; omega), eR])
  · have h1 := ov_wrap ho
    have e : Z.fixV (ovn o) m I F n d = Q.mk ((Z.rndE m n d (F : Int) + 2 ^ (I + F)) % (2 * 2 ^ (I + F)) - 2 ^ (I + F)) (2 ^ F) := by
      unfold Z.fixV; rw [if_pos h1, eR]
    have m1 := Int.emod_nonneg (Z.rndE m n d (F : Int) + 2 ^ (I + F)) (show (2 * 2 ^ (I + F) : Int) ≠ 0 by omega)
    have m2 := Int.emod_lt_of_pos (Z.rndE m n d (F : Int) + 2 ^ (I + F)) (show (0 : Int) < 2 * 2 ^ (I + F) by omega)
    simp only [Bool.not_true, ct, cf]
    cases hb : Z.below n d ((I + 1 : Nat) : Int)
    · obtain ⟨r1, r2, r3, r4⟩ := fix_rest (I := I) hn hd.1 hb
      obtain ⟨b1, b2, b3⟩ := fix_below (m := m) h hd.1 r3
      obtain ⟨c1, c2⟩ := fix_prem b1 hd
      have ew := fix_wrapped (m := m) (I := I) (F := F) (n := n) hm hd.1
      have hz : (d * 2 ^ (I + 1) == 0) = false := beq_eq_false_iff_ne.2 (by omega)
      rw [Bool.not_false, ct, Int.toNat_natCast, mi (by omega), iw (x := d * 2 ^ (I + 1)) (by omega), hz, cf, rounded_eq m hm _ d (F : Int) r4 (by omega) (by omega) c1 c2]
      generalize n.tmod (d * 2 ^ (I + 1)) = t at *
      rw [iw (x := Z.rndE m t d (F : Int) + 2 ^ (I + F)) (by omega), mask_eq _ (by omega), ew]
      generalize (Z.rndE m n d (F : Int) + 2 ^ (I + F)) % (2 * 2 ^ (I + F)) = Y at *
      rw [iw (x := Y - 2 ^ (I + F)) (by omega), decide_eq_false (show ¬ (Y - 2 ^ (I + F) < -(2 ^ (I + F))) by omega), Bool.not_false, ct, decide_eq_false (show ¬ (Y - 2 ^ (I + F) ≥ 2 ^ (I + F)) by omega), cf, steps_eq _ _ _ h _ (by omega), e]
    · obtain ⟨b1, b2, b3⟩ := fix_below (m := m) h hd.1 hb
      obtain ⟨c1, c2⟩ := fix_prem b1 hd
      rw [Bool.not_true, cf, rounded_eq m hm n d (F : Int) hn (by omega) (by omega) c1 c2, iw (x := Z.rndE m n d (F : Int) + 2 ^ (I + F)) (by omega), mask_eq _ (by omega)]
      generalize (Z.rndE m n d (F : Int) + 2 ^ (I + F)) % (2 * 2 ^ (I + F)) = Y at *
      rw [iw (x := Y - 2 ^ (I + F)) (by omega), decide_eq_false (show ¬ (Y - 2 ^ (I + F) < -(2 ^ (I + F))) by omega), Bool.not_false, ct, decide_eq_false (show ¬ (Y - 2 ^ (I + F) ≥ 2 ^ (I + F)) by omega), cf, steps_eq _ _ _ h _ (by omega), e]
theorem flo_loop {k0 r o : ByteArray} {I F : Nat} (h : I + F ≤ 30) {n d : Int} (hn : -2305843009213693952 ≤ n ∧ n ≤ 2305843009213693952) (hd : 1 ≤ d ∧ d ≤ 1152921504606846976) (κ : (Int → ByteArray → Int → Int → ByteArray → ByteArray → Int → Int → Int → Int → Option DV) × (Int → ByteArray → Int → Int → ByteArray → ByteArray → Int → Int → Int → Int → Option DV)) :
    ∀ (N : Nat) (x : Int), -(F : Int) ≤ x → x ≤ F → (F : Int) - x < N → LF (F_quant_fitFloat_l2 quant_beyond quant_exact_isBelow quant_power quant_exact_rounded) N (.h0 x k0 I F r o n d 0 0) κ =
      if Z.flx I n d ((F : Int) + 1 - x).toNat x = F + 1 then quant_beyond k0 I F r o n d (fun a b => κ.1 F k0 I F r o n d a b) else κ.2 (Z.flx I n d ((F : Int) + 1 - x).toNat x) k0 I F r o n d 0 0
  | 0, x, h1, h2, h3 => absurd h3 (by omega)
  | N + 1, x, h1, h2, h3 => by
    have ih := flo_loop (k0 := k0) (r := r) (o := o) h hn hd κ N (x + 1) (by omega)
    show B_quant_fitFloat_l2_h0 quant_beyond quant_exact_isBelow quant_power quant_exact_rounded x k0 I F r o n d 0 0 (fun x' => LF (F_quant_fitFloat_l2 quant_beyond quant_exact_isBelow quant_power quant_exact_rounded) N x' κ) κ.1 κ.2 = _
    unfold B_quant_fitFloat_l2_h0
    rw [iw (x := (I : Int) + x) (by omega), isBelow_eq n d _ (by omega) hd (by omega), iw (x := x + 1) (by omega), show ((F : Int) + 1 - x).toNat = ((F : Int) + 1 - (x + 1)).toNat + 1 by omega]
    unfold Z.flx
    cases hb : Z.below n d ((I : Int) + x)
    · rw [Bool.not_false, ct]
      simp only [Bool.false_eq_true, if_false]
      by_cases hx : x = F
      · subst hx
        rw [show ((F : Int) == (F : Int)) = true by simp, ct, show ((F : Int) + 1 - ((F : Int) + 1)).toNat = 0 by omega]
        unfold Z.flx
        rw [if_pos rfl]
      · rw [beq_eq_false_iff_ne.2 hx, cf, ih (by omega) (by omega)]
    · rw [Bool.not_true, cf]
      simp only [if_true]
      rw [if_neg (by omega)]
theorem fitFloat_eq {k0 o : ByteArray} {m I F : Nat} (hm : m ≤ 2) (h : I + F ≤ 30) {n d : Int} (hn : -2305843009213693952 ≤ n ∧ n ≤ 2305843009213693952) (hd : 1 ≤ d ∧ d ≤ 1152921504606846976) (hv : Z.vld k0 (rnm m) o (I : Int) (F : Int) = true) (hI1 : 1 ≤ I) (hF20 : F ≤ 20) (hk : (k0.toList == [102, 105, 120]) = false) (k : Int → Int → Option DV) :
    quant_fitFloat k0 I F (rnm m) o n d k = k (Z.floatV (ovn o) m I F n d).1 (Z.floatV (ovn o) m I F n d).2 := by
  have hp := pb_of h
  have hi := hp.i
  have T : ∀ {a b : Int × Int}, a = b → k a.1 a.2 = k b.1 b.2 := by rintro a b rfl; rfl
  have hE : Z.flx I n d ((F : Int) + 1 - -(F : Int)).toNat (-(F : Int)) = Z.expo I F n d := by unfold Z.expo; congr 1; omega
  obtain ⟨s1, s2, s3, s4⟩ := Z.flx_spec I n d (2 * F + 1) (-(F : Int))
  unfold quant_fitFloat B_quant_fitFloat
  have e0 : IntKind.wrap .i64 (0 - (F : Int)) = -(F : Int) := by rw [iw (by omega)]; omega
  rw [e0]
  unfold φ_quant_fitFloat_l2
  simp only []
  rw [flo_loop h hn hd _ _ _ (by omega) (by omega) (by omega), hE]
  by_cases hX : Z.expo I F n d = F + 1
  · rw [if_pos hX, beyond_eq n d hv, hk]
    exact T (by unfold Z.floatV; rw [if_pos hX])
  · rw [if_neg hX]
    have hF : Z.expo I F n d ≤ F := by unfold Z.expo at *; omega
    obtain ⟨a1, a2, a3, a4, a5⟩ := flo_at (m := m) h hI1 hn hd rfl hF
    have hf := flo_pw h hF ⟨a4, a5⟩
    simp only []
    have T2 : Z.floatV (ovn o) m I F n d = if Z.expo I F n d = F ∧ (Z.rndE m n d (-Z.expo I F n d) = 2 ^ I ∨ Z.rndE m n d (-Z.expo I F n d) = -(2 ^ I)) then Z.bey (ovn o) false I F (decide (n < 0)) else Z.pw (Z.rndE m n d (-Z.expo I F n d)) (Z.expo I F n d) := by
      unfold Z.floatV; rw [if_neg hX]
    rw [T2]
    generalize Z.expo I F n d = X at *
    rw [iw (x := 0 - X) (by omega), Int.zero_sub, rounded_eq m hm n d (-X) hn (by omega) (by omega) a2 a3]
    generalize Z.rndE m n d (-X) = M at *
    by_cases hx : X = F
    · subst hx
      rw [show ((F : Int) == (F : Int)) = true by simp, ct, nneg, cf, Int.toNat_natCast, mi (by omega), Int.one_mul, iw (x := 2 ^ I) (by omega), iw (x := 0 - M) (by omega)]
      by_cases hM : M = 2 ^ I ∨ M = -(2 ^ I)
      · rw [show ((if 0 - M > M then 0 - M else M) == 2 ^ I) = true by rw [beq_iff_eq]; split <;> omega, ct, beyond_eq n d hv, hk, if_pos ⟨rfl, hM⟩]
      · rw [show ((if 0 - M > M then 0 - M else M) == 2 ^ I) = false by rw [beq_eq_false_iff_ne]; split <;> omega, cf, power_eq _ _ (by omega) hf, if_neg (fun hc => hM hc.2)]
    · rw [beq_eq_false_iff_ne.2 hx, cf, power_eq _ _ (by omega) hf, if_neg (fun hc => hx hc.1)]
theorem qfit_eq {k0 o : ByteArray} {m I F : Nat} (hm : m ≤ 2) (h : I + F ≤ 30) {n d : Int} (hn : -2305843009213693952 ≤ n ∧ n ≤ 2305843009213693952) (hd : 1 ≤ d ∧ d ≤ 1152921504606846976) (hv : Z.vld k0 (rnm m) o (I : Int) (F : Int) = true) (k : Int → Int → Option DV) :
    quant_fit k0 I F (rnm m) o n d k = k (Z.fitV k0 o m I F n d).1 (Z.fitV k0 o m I F n d).2 := by
  unfold quant_fit B_quant_fit Z.fitV
  rw [qvalid_eq, hv, Bool.not_true, cf]
  simp only [tl, vld_float hv]
  cases hk : (k0.toList == [102, 105, 120])
  · have hp := (vld_parts hv).2.2.2.2.2 hk
    rw [Bool.not_false, ct, if_neg (by decide), fitFloat_eq hm h hn hd hv (by omega) (by omega) hk]
  · rw [Bool.not_true, cf, if_pos rfl, fitFix_eq hm h hn hd hv hk]
theorem qFit_eq (k0 r o : ByteArray) (I F n d : Int) (k : Int → Int → Option DV) : quant_Fit k0 I F r o n d k = k (Z.fitQ k0 r o I F n d).1 (Z.fitQ k0 r o I F n d).2 := by
  unfold quant_Fit B_quant_Fit ratio_Is Z.fitQ
  dsimp only
  cases hq : Q.isq n d
  · rw [Bool.not_false, ct, Bool.false_and, if_neg (by decide)]
  · rw [Bool.not_true, cf, Bool.true_and]
    cases hv : Z.vld k0 r o I F
    · unfold quant_fit B_quant_fit
      rw [qvalid_eq, hv, Bool.not_false, ct, if_neg (by decide)]
    · obtain ⟨m, i, f, hm, hm2, hr, rfl, rfl, hs⟩ := vld_open hv
      rw [← hm, if_pos rfl]
      rw [hr] at hv ⊢
      have hb := of_decide_eq_true (show decide _ = true from hq)
      rw [qfit_eq hm2 hs (by omega) (by omega) hv, Int.toNat_natCast, Int.toNat_natCast]
end Y
end Go.Proofs.YtiiddikiaafanaaGreatDoor
