import Derived.Test.YtgohccjmphapfaaGreatDoorJb
set_option linter.all false
noncomputable section
namespace Go.Proofs.YtgohccjmphapfaaGreatDoor
open Go Go.Pv Go.RowKit
theorem wu {x : Int} (h : 0 ≤ x ∧ x ≤ 9223372036854775807) : IntKind.wrap .u64 x = x := by
 simp [IntKind.wrap, IntKind.bits, IntKind.signed]; omega
theorem wun {n : Nat} (h : n ≤ 1152921504606846976) : IntKind.wrap .u64 (n : Int) = n := wu (by omega)
theorem win {n : Nat} (h : n ≤ 1152921504606846976) : IntKind.wrap .i64 (n : Int) = n := Kfo (by omega)
theorem nb {n M : Nat} {m : Int} (h : n ≤ M) (hm : (M : Int) = m) (h0 : 0 ≤ m) : -m ≤ (n : Int) ∧ (n : Int) ≤ m := by omega
theorem Wkq (a b : Nat) : Int.tdiv (a : Int) (b : Int) = ((a / b : Nat) : Int) := by rw [Int.tdiv_eq_ediv_of_nonneg (by omega)]; rfl
theorem Wg1 {a b : Int} (h : Q.isq a b = true) : -1073741824 ≤ a ∧ a ≤ 1073741824 ∧ 1 ≤ b ∧ b ≤ 1073741824 := by have := (Q.isq_iff a b).1 h; omega
def sgn (a b : Int) : Int := if a < b then -1 else if a > b then 1 else 0
theorem Wkr {a b c d : Int} (h1 : Q.isq a b = true) (h2 : Q.isq c d = true) (k : KI) : Kyh a b c d k = k (sgn (a * d) (c * b)) := by
 have b1 := Wg1 h1
 have b2 := Wg1 h2
 unfold Kyh Wch Kz2 K42
 simp only [Wb0, h1, h2, bx_t, Bool.not_true, bx_f, Wr3]
 rw [Kfo (Q.mul_bd _ _ (by omega) (by omega)), Kfo (Q.mul_bd _ _ (by omega) (by omega))]
 rfl
theorem Wtt {a b c d : Int} (h1 : Q.isq a b = true) (h2 : Q.isq c d = true) (k : KI) : Kjl a b c d k = k (sgn (a * d) (c * b)) := by
 have b1 := Wg1 h1
 have b2 := Wg1 h2
 unfold Kjl Kvq
 simp only [Wl9, h1, h2, bx_t, Bool.not_true, bx_f]
 rw [Kfo (Q.mul_bd _ _ (by omega) (by omega)), Kfo (Q.mul_bd _ _ (by omega) (by omega))]
 unfold sgn
 by_cases h : a * d < c * b
 ·simp only [h, decide_true, bx_t, if_true]
 ·by_cases h2 : a * d > c * b
  ·simp only [h, h2, decide_true, decide_false, bx_t, bx_f, if_true, if_false]
  ·simp only [h, h2, decide_false, bx_f, if_false]
theorem Wg2 (a b : Int) : decide (sgn a b > 0) = decide (b < a) := by
 unfold sgn
 by_cases h : a < b
 ·have : ¬ b < a := by omega
  simp [h, this]
 ·by_cases h2 : b < a
  ·simp [h, h2]
  ·simp [h, h2]
theorem Wtu (a b : Nat) (ha : 1 ≤ a ∧ a ≤ 1073741824) (hb : 1 ≤ b ∧ b ≤ 1073741824) (k : KQ) : K64 a b k = k ((a / Nat.gcd a b : Nat) : Int) ((b / Nat.gcd a b : Nat) : Int) := by
 unfold K64 Wag Kn4 K0e
 have hg : 0 < Nat.gcd a b := Nat.gcd_pos_of_pos_right _ (by omega)
 simp only [Wc2 (a : Int) (by omega), Wc2 (b : Int) (by omega), Int.natAbs_natCast, K9s a b hb.2]
 have e1 : ((b : Int) == 0) = false := by simp; omega
 have e2 : (((Nat.gcd a b : Nat) : Int) == 0) = false := by simp; omega
 have e3 : (!(decide ((a : Int) < 0) == decide ((b : Int) < 0))) = false := by
  have h1 : decide ((a : Int) < 0) = false := decide_eq_false (by omega)
  have h2 : decide ((b : Int) < 0) = false := decide_eq_false (by omega)
  rw [h1, h2]; rfl
 have l1 : a / Nat.gcd a b ≤ a := Nat.div_le_self _ _
 have l2 : b / Nat.gcd a b ≤ b := Nat.div_le_self _ _
 have w1 : IntKind.wrap .u64 ((a / Nat.gcd a b : Nat) : Int) = ((a / Nat.gcd a b : Nat) : Int) := wun (by omega)
 have w2 : IntKind.wrap .u64 ((b / Nat.gcd a b : Nat) : Int) = ((b / Nat.gcd a b : Nat) : Int) := wun (by omega)
 have w3 : IntKind.wrap .i64 ((a / Nat.gcd a b : Nat) : Int) = ((a / Nat.gcd a b : Nat) : Int) := win (by omega)
 have w4 : IntKind.wrap .i64 ((b / Nat.gcd a b : Nat) : Int) = ((b / Nat.gcd a b : Nat) : Int) := win (by omega)
 have d1 : (!(decide (((a / Nat.gcd a b : Nat) : Int) > 1073741824))) = true := by simp; omega
 have d2 : decide (((b / Nat.gcd a b : Nat) : Int) > 1073741824) = false := by simp; omega
 simp only [e1, e2, e3, bx_f, Wkq, w1, w2, w3, w4, d1, d2, bx_t]
theorem Wtv {a b : Int} (h : Q.isq a b = true) : Q.isq (-a) b = true := by
 have h := (Q.isq_iff a b).1 h
 exact (Q.isq_iff _ _).2 ⟨by omega, by omega, by omega, by omega, by rw [Int.natAbs_neg]; exact h.2.2.2.2⟩
theorem Wtw {a b : Int} (h : Q.isq a b = true) : Q.isq (a.natAbs : Nat) b = true := by
 by_cases h0 : 0 ≤ a
 ·rw [show ((a.natAbs : Nat) : Int) = a by omega]; exact h
 ·rw [show ((a.natAbs : Nat) : Int) = -a by omega]; exact Wtv h
theorem Wqg {a b c d : Int} (h1 : Q.isq a b = true) (h2 : Q.isq c d = true) (k : KQ) : K3p a b c d k = if a * d < c * b then k c d else k a b := by
 unfold K3p Wci Kz2 K42
 simp only [Wb0, h1, h2, bx_t, Bool.not_true, bx_f, Wkr h2 h1, Wg2]
 by_cases h : a * d < c * b
 ·simp only [h, decide_true, bx_t, if_true]
 ·simp only [h, decide_false, bx_f, if_false]
theorem Wqh {a b : Int} (h1 : Q.isq a b = true) (k : KQ) : Wah a b k = k (a.natAbs : Nat) b := by
 have b1 := Wg1 h1
 unfold Wah Wck Wd2 Wcj
 simp only [Wb0, h1, Bool.not_true, bx_f, Int.zero_sub, Kfo (show -1152921504606846976 ≤ -a ∧ -a ≤ 1152921504606846976 by omega), Wqg h1 (Wtv h1)]
 by_cases h : a < 0
 ·have h3 : a * b < (-a) * b := Int.mul_lt_mul_of_pos_right (by omega) (by omega)
  rw [if_pos h3, show ((a.natAbs : Nat) : Int) = -a by omega]
 ·have h3 : ¬ a * b < (-a) * b := by
   have := Int.mul_le_mul_of_nonneg_right (show -a ≤ a by omega) (show 0 ≤ b by omega)
   omega
  rw [if_neg h3, show ((a.natAbs : Nat) : Int) = a by omega]
def ends (c : Nat) (n d : Int) : Bool := decide ((c : Int) * (n.natAbs : Nat) ≤ 1073741824 * d)
def inC (c : Nat) (lo hi : Int × Int) : Bool := decide (c ≤ 1073741824) && (ends c lo.1 lo.2 && ends c hi.1 hi.2)
def inR (lo hi st : Int × Int) : Bool := inC (Nat.lcm lo.2.natAbs st.2.natAbs) lo hi
theorem Wmh {c : Nat} {n d n' d' : Int} (hd : 0 < d) (hd' : 0 ≤ d') (h : ((n'.natAbs : Nat) : Int) * d ≤ ((n.natAbs : Nat) : Int) * d') (he : ends c n d = true) : ends c n' d' = true := by
 have he : (c : Int) * (n.natAbs : Nat) ≤ 1073741824 * d := of_decide_eq_true he
 refine decide_eq_true (Int.le_of_mul_le_mul_right (a := d) ?_ hd)
 have h1 := Int.mul_le_mul_of_nonneg_left h (show 0 ≤ (c : Int) by omega)
 have h2 := Int.mul_le_mul_of_nonneg_right he hd'
 have e1 : (c : Int) * (n'.natAbs : Nat) * d = c * ((n'.natAbs : Nat) * d) := Int.mul_assoc _ _ _
 have e2 : (c : Int) * ((n.natAbs : Nat) * d') = c * (n.natAbs : Nat) * d' := (Int.mul_assoc _ _ _).symm
 have e3 : 1073741824 * d * d' = 1073741824 * d' * d := by rw [Int.mul_assoc, Int.mul_comm d d', ← Int.mul_assoc]
 omega
theorem lcm_l (a b : Nat) : a * (b / Nat.gcd a b) = Nat.lcm a b := by
 rw [Nat.lcm, Nat.mul_div_assoc _ (Nat.gcd_dvd_right a b)]
theorem W03 (a b : Nat) : a / Nat.gcd a b * b = Nat.lcm a b := by
 rw [Nat.lcm, Nat.mul_comm a b, Nat.mul_div_assoc _ (Nat.gcd_dvd_left a b), Nat.mul_comm]
theorem Wr7 (lo hi st : Int × Int) (h1 : Q.isq lo.1 lo.2 = true) (h2 : Q.isq hi.1 hi.2 = true) (h3 : Q.isq st.1 st.2 = true) (k : KB) : Kk3 lo.1 lo.2 hi.1 hi.2 st.1 st.2 k = k (inR lo hi st) := by
 obtain ⟨ln, ld⟩ := lo
 obtain ⟨hn, hd⟩ := hi
 obtain ⟨sn, sd⟩ := st
 simp only at h1 h2 h3 ⊢
 have b1 := Wg1 h1
 have b2 := Wg1 h2
 have b3 := Wg1 h3
 unfold Kk3 Kqv inR
 obtain ⟨x, rfl⟩ : ∃ x : Nat, ld = x := ⟨ld.natAbs, by omega⟩
 obtain ⟨y, rfl⟩ : ∃ y : Nat, sd = y := ⟨sd.natAbs, by omega⟩
 rw [Wtu x y (by omega) (by omega), Wqh h1, Wqh h2, Wqg (Wtw h1) (Wtw h2)]
 have hy : y / Nat.gcd x y ≤ y := Nat.div_le_self _ _
 have hc := Q.mul_bd (x : Int) ((y / Nat.gcd x y : Nat) : Int) (by omega) (nb (Nat.le_trans hy (show y ≤ 1073741824 by omega)) rfl (by omega))
 have e0 : (x : Int) * ((y / Nat.gcd x y : Nat) : Int) = ((Nat.lcm x y : Nat) : Int) := by rw [← lcm_l]; exact (Int.natCast_mul _ _).symm
 simp only [Int.natAbs_natCast]
 rw [e0] at hc
 simp only [e0, Kfo hc]
 generalize Nat.lcm x y = c at *
 unfold inC
 by_cases hcm : c ≤ 1073741824
 ·have d1 : decide ((c : Int) ≤ 1073741824) = true := by simp; omega
  simp only [d1, bx_t, decide_eq_true hcm, Bool.true_and]
  have m1 := Q.mul_bd (c : Int) ((hn.natAbs : Nat) : Int) (by omega) (by omega)
  have m2 := Q.mul_bd (c : Int) ((ln.natAbs : Nat) : Int) (by omega) (by omega)
  have m3 := Q.mul_bd 1073741824 hd (by omega) (by omega)
  have m4 := Q.mul_bd 1073741824 (x : Int) (by omega) (by omega)
  rw [Kfo m1, Kfo m2, Kfo m3, Kfo m4]
  by_cases h : ((ln.natAbs : Nat) : Int) * hd < ((hn.natAbs : Nat) : Int) * x
  ·rw [if_pos h]
   cases he : ends c hn hd with
   | true =>
    have := Wmh (n' := ln) (d' := x) (by omega) (by omega) (Int.le_of_lt h) he
    rw [this]; exact congrArg k he
   | false => rw [Bool.and_false]; exact congrArg k he
  ·rw [if_neg h]
   cases he : ends c ln x with
   | true =>
    have := Wmh (n' := hn) (d' := hd) (by omega) (by omega) (by omega) he
    rw [this]; exact congrArg k he
   | false => rw [Bool.false_and]; exact congrArg k he
 ·have d1 : decide ((c : Int) ≤ 1073741824) = false := by simp; omega
  simp only [d1, bx_f, decide_eq_false hcm, Bool.false_and]
  split <;> rfl
theorem Wjq (p : Kbe → Nat) (κ : W24) (u v : Int) : ∀ (n e a b : Nat), b < 2 ^ n → LF (Kee p) (2 * n + 1 + e) (.h0 u v a b) κ = κ u v ((Nat.gcd a b : Nat) : Int)
 | 0, e, a, b, h => by
  have hb : b = 0 := by omega
  subst hb
  rw [show 2 * 0 + 1 + e = e + 1 by omega, LF]
  simp only [Kee]
  rw [Nat.gcd_zero_right]; rfl
 | n + 1, e, a, b, h => by
  by_cases hb : b = 0
  ·subst hb
   rw [show 2 * (n + 1) + 1 + e = (2 * n + 2 + e) + 1 by omega, LF]
   simp only [Kee]
   rw [Nat.gcd_zero_right]; rfl
  ·have e1 : ((b : Int) != 0) = true := by simp; omega
   have e2 : ((b : Int) == 0) = false := by simp; omega
   rw [show 2 * (n + 1) + 1 + e = (2 * n + 1 + e + 1) + 1 by omega, LF]
   simp only [Kee, e1, e2, bx_t, bx_f, Wgr]
   have hm : a % b < b := Nat.mod_lt _ (by omega)
   by_cases hm0 : a % b = 0
   ·rw [hm0, LF]
    simp only [Kee]
    have : Nat.gcd a b = b := by rw [Nat.gcd_comm, Nat.gcd_rec, hm0, Nat.gcd_zero_left]
    rw [this]; rfl
   ·have e3 : (((a % b : Nat) : Int) != 0) = true := by simp; omega
    have e4 : (((a % b : Nat) : Int) == 0) = false := by simp; omega
    rw [LF]
    simp only [Kee, e3, e4, bx_t, bx_f, Wgr]
    have h2 : b % (a % b) < 2 ^ n := by
     have hp : 2 ^ (n + 1) = 2 * 2 ^ n := by rw [Nat.pow_succ]; omega
     have hl := Nat.mod_lt b (show a % b > 0 by omega)
     have hd := Nat.div_add_mod b (a % b)
     have hq : 1 ≤ b / (a % b) := Nat.div_pos (by omega) (by omega)
     have : a % b ≤ (a % b) * (b / (a % b)) := Nat.le_mul_of_pos_right _ (by omega)
     omega
    rw [Wjq p κ u v n e (a % b) (b % (a % b)) h2]
    congr 2
    rw [Nat.gcd_comm a b, Nat.gcd_rec b a, Nat.gcd_comm (a % b) b, Nat.gcd_comm (a % b), ← Nat.gcd_rec, Nat.gcd_comm]
theorem Wzh (a b : Nat) (ha : 1 ≤ a ∧ a ≤ 1073741824) (hb : 1 ≤ b ∧ b ≤ 1073741824) (k : KI) : Kg2 a b k = k (if Nat.lcm a b ≤ 1073741824 then ((Nat.lcm a b : Nat) : Int) else 0) := by
 unfold Kg2 Kvs
 have hg : 0 < Nat.gcd a b := Nat.gcd_pos_of_pos_right _ (by omega)
 have hx : Klh (Kbe.h0 a b a b) = 2 * 31 + 1 + 137 := rfl
 rw [hx]
 refine Eq.trans (Wjq _ _ _ _ 31 137 a b (by omega)) ?_
 have e1 : ((b : Int) == 0) = false := by simp; omega
 have e2 : (((Nat.gcd a b : Nat) : Int) == 0) = false := by simp; omega
 have l1 : a / Nat.gcd a b ≤ a := Nat.div_le_self _ _
 have l2 : 1073741824 / b ≤ 1073741824 := Nat.div_le_self _ _
 have hM : Int.tdiv 1073741824 (b : Int) = ((1073741824 / b : Nat) : Int) := Wkq 1073741824 b
 simp only [e1, e2, bx_f, Wkq, hM, win (show a / Nat.gcd a b ≤ 1152921504606846976 by omega), win (show 1073741824 / b ≤ 1152921504606846976 by omega), Kfo (Q.mul_bd ((a / Nat.gcd a b : Nat) : Int) (b : Int) (nb (Nat.le_trans l1 ha.2) rfl (by omega)) (by omega))]
 have hl : 1073741824 / b < a / Nat.gcd a b ↔ ¬ Nat.lcm a b ≤ 1073741824 := by
  rw [Nat.div_lt_iff_lt_mul (by omega), W03]; omega
 by_cases h : Nat.lcm a b ≤ 1073741824
 ·have hn : ¬ (1073741824 / b < a / Nat.gcd a b) := fun h' => hl.1 h' h
  have : decide (((a / Nat.gcd a b : Nat) : Int) > ((1073741824 / b : Nat) : Int)) = false := by simp only [decide_eq_false_iff_not]; omega
  rw [this, bx_f, if_pos h, ← W03, Int.natCast_mul]
 ·have hn := hl.2 h
  have : decide (((a / Nat.gcd a b : Nat) : Int) > ((1073741824 / b : Nat) : Int)) = true := by simp only [decide_eq_true_eq]; omega
  rw [this, bx_t, if_neg h]
def ctl : List (Int × Int) → Bool
 | [f, lo, hi, st] => (Q.isq f.1 f.2 && (Q.isq lo.1 lo.2 && (Q.isq hi.1 hi.2 && Q.isq st.1 st.2))) && (!decide (f.1 * lo.2 < lo.1 * f.2) && (!decide (hi.1 * f.2 < f.1 * hi.2) && (!decide (st.1 < 0) && ((st.1 == 0) || inR lo hi st))))
 | _ => false
theorem ctl4 (f lo hi st : Int × Int) : ctl [f, lo, hi, st] = ((Q.isq f.1 f.2 && (Q.isq lo.1 lo.2 && (Q.isq hi.1 hi.2 && Q.isq st.1 st.2))) && (!decide (f.1 * lo.2 < lo.1 * f.2) && (!decide (hi.1 * f.2 < f.1 * hi.2) && (!decide (st.1 < 0) && ((st.1 == 0) || inR lo hi st))))) := rfl
theorem Woq : ∀ {X : List (Int × Int)}, (X.all fun q => Q.isq q.1 q.2) = false → ctl X = false
 | [], _ => rfl
 | [_], _ => rfl
 | [_, _], _ => rfl
 | [_, _, _], _ => rfl
 | [f, lo, hi, st], h => by
  simp only [List.all_cons, List.all_nil, Bool.and_true] at h
  rw [ctl4, h]; rfl
 | _ :: _ :: _ :: _ :: _ :: _, _ => rfl
theorem Wtx {X : List (Int × Int)} (h : X.length ≠ 4) : ctl X = false := by
 match X, h with
 | [], _ => rfl
 | [_], _ => rfl
 | [_, _], _ => rfl
 | [_, _, _], _ => rfl
 | [_, _, _, _], h => exact absurd rfl h
 | _ :: _ :: _ :: _ :: _ :: _, _ => rfl
theorem Wmi (X : List (Int × Int)) (hl : X.length < 9223372036854775807) (k : KB) : Kty (X.map qpc) k = k (ctl X) := by
 unfold Kty Kz4
 by_cases h4 : X.length = 4
 ·have e0 : (!(((List.length (X.map qpc) : Nat) : Int) != 4)) = true := by simp [h4]
  rw [e0, bx_t, Wc4 X hl]
  cases ha : X.all fun q => Q.isq q.1 q.2 with
  | false =>
   have : (X.any fun q => !Q.isq q.1 q.2) = true := by rw [List.any_eq_not_all_not]; simpa using ha
   rw [this, bx_t, Woq ha]
  | true =>
   have : (X.any fun q => !Q.isq q.1 q.2) = false := by rw [List.any_eq_not_all_not]; simpa using ha
   rw [this, bx_f]
   match X, h4, ha with
   | [f, lo, hi, st], _, ha =>
    simp only [List.all_cons, List.all_nil, Bool.and_true] at ha
    have ha' := ha
    simp only [Bool.and_eq_true] at ha
    obtain ⟨h1, h2, h3, h5⟩ := ha
    show Kyh lo.1 lo.2 f.1 f.2 _ = _
    rw [Wkr h2 h1, Wg2]
    rw [ctl4, ha', Bool.true_and]
    cases c1 : decide (f.1 * lo.2 < lo.1 * f.2) with
    | true => rfl
    | false =>
     rw [Bool.not_false, bx_t]
     show Kyh f.1 f.2 hi.1 hi.2 _ = _
     rw [Wkr h1 h3, Wg2]
     cases c2 : decide (hi.1 * f.2 < f.1 * hi.2) with
     | true => rfl
     | false =>
      rw [Bool.not_false, bx_t]
      show bx (decide (st.1 < 0)) _ _ = _
      cases c3 : decide (st.1 < 0) with
      | true => rfl
      | false =>
       rw [bx_f]
       show bx (!(st.1 == 0)) _ _ = _
       cases c4 : (st.1 == 0) with
       | true => rfl
       | false => exact Wr7 lo hi st h2 h3 h5 k
 ·have e0 : (!(((List.length (X.map qpc) : Nat) : Int) != 4)) = false := by simp; omega
  rw [e0, bx_f, Wtx h4]
theorem Wqi (f1 : W23) (f2 : W26) (X : List (Int × Int)) (hl : X.length < 9223372036854775807) (κ : (List (List DV) → Bool → Option DV) × (List (List DV) → Option DV)) : ∀ (r d : List (Int × Int)), X = d ++ r → LF (Kfp Kcm f1 f2) (r.length + 1) (.h0 (X.map qpc) d.length) κ = bx (r.all fun q => Q.isq q.1 q.2) (κ.2 (X.map qpc)) (κ.1 (X.map qpc) false)
 | [], d, hX => by
  simp only [LF, Kfp, List.length_map]
  have : decide ((d.length : Int) < (X.length : Int)) = false := by simp [hX]
  rw [this, bx_f]; rfl
 | q :: r, d, hX => by
  have hlx : X.length = d.length + r.length + 1 := by simp [hX]; omega
  have ih := Wqi f1 f2 X hl κ r (d ++ [q]) (by simp [hX])
  have h1 : decide ((d.length : Int) < (X.length : Int)) = true := by simp; omega
  have h2 : decide (0 ≤ (d.length : Int)) = true := by simp
  have h3 : (X.map qpc)[Int.toNat (d.length : Int)]? = some (qpc q) := by simp [hX]
  rw [show (q :: r).length + 1 = (r.length + 1) + 1 from rfl, LF]
  simp only [Kfp, List.length_map, h1, h2, h3, bx_t, optE, ld_q, Wl9]
  rw [Kcp (by omega) (by omega), show (d.length : Int) + 1 = ((d ++ [q]).length : Nat) by simp, ih]
  cases hp : Q.isq q.1 q.2 with
  | true => simp [List.all_cons, hp, bx_f]
  | false => simp [List.all_cons, hp, bx_t, bx_f]
theorem Wqj (c : Nat) (hc : c ≤ 1073741824) {n d : Int} (h : Q.isq n d = true) (a b : W4y) :
  (bx (decide (n < 0)) (bx (decide (IntKind.wrap .i64 ((c : Int) * (IntKind.wrap .i64 (0 - n))) > IntKind.wrap .i64 (1073741824 * d))) a b) (bx (decide (IntKind.wrap .i64 ((c : Int) * n) > IntKind.wrap .i64 (1073741824 * d))) a b)) = bx (ends c n d) b a := by
 have hb := Wg1 h
 rw [Kfo (Q.mul_bd 1073741824 d (by omega) (by omega))]
 have key : ∀ m : Int, m = (n.natAbs : Nat) → bx (decide (IntKind.wrap .i64 ((c : Int) * m) > 1073741824 * d)) a b = bx (ends c n d) b a := fun m hm => by
  subst hm
  rw [Kfo (Q.mul_bd (c : Int) ((n.natAbs : Nat) : Int) (by omega) (by omega))]
  unfold ends
  by_cases hx : (c : Int) * (n.natAbs : Nat) ≤ 1073741824 * d
  ·rw [decide_eq_true hx, decide_eq_false (by omega)]; rfl
  ·rw [decide_eq_false hx, decide_eq_true (by omega)]; rfl
 by_cases hn : n < 0
 ·rw [decide_eq_true hn, bx_t, Kfo (show -1152921504606846976 ≤ 0 - n ∧ 0 - n ≤ 1152921504606846976 by omega)]
  exact key _ (by omega)
 ·rw [decide_eq_false hn, bx_f]
  exact key _ (by omega)
theorem Wty (f0 : W2q) (f1 : W23) (f2 : W26) (c : Nat) (hc : c ≤ 1073741824) {a b e d : Int} (h1 : Q.isq a b = true) (h2 : Q.isq e d = true) (κ : KB × Option DV) :
  LF (Ke8 f0 f1 f2) 3 (.h0 c 2 2 0 [.val (.int .i64 a), .val (.int .i64 b), .val (.int .i64 e), .val (.int .i64 d)]) κ = bx (ends c a b && ends c e d) κ.2 (κ.1 false) := by
 rw [show (3 : Nat) = 2 + 1 from rfl, LF]
 simp only [Ke8]
 refine Eq.trans (Wqj c hc h1 _ _) ?_
 cases ends c a b with
 | false => rfl
 | true =>
  rw [bx_t, show (2 : Nat) = 1 + 1 from rfl, LF]
  simp only [Ke8]
  refine Eq.trans (Wqj c hc h2 _ _) ?_
  cases ends c e d with
  | false => rfl
  | true => rfl
theorem ld_q0 (q : Int × Int) (k : KI) : ld_i (List.drop 0 (qpc q)) 0 k = k q.1 := rfl
theorem ld_q1 (q : Int × Int) (k : KI) : ld_i (List.drop 1 (qpc q)) 0 k = k q.2 := rfl
theorem Wor (X : List (Int × Int)) (hl : X.length < 9223372036854775807) (k : KB) : Kih (X.map qpc) k = k (ctl X) := by
 unfold Kih Kph
 have hf : Kg3 (Kcc.h0 (X.map qpc) 0) = X.length + 1 := by simp [Kg3]
 rw [hf]
 refine Eq.trans (Wqi _ _ X hl _ X [] rfl) ?_
 cases ha : X.all fun q => Q.isq q.1 q.2 with
 | false => rw [Woq ha]; rfl
 | true =>
  rw [bx_t]
  by_cases h4 : X.length = 4
  ·have e0 : (!(((List.length (X.map qpc) : Nat) : Int) != 4)) = true := by simp [h4]
   simp only [e0, bx_t]
   match X, h4, ha with
   | [f, lo, hi, st], _, ha =>
    have g0 : (List.map qpc [f, lo, hi, st])[Int.toNat 0]? = some (qpc f) := rfl
    have g1 : (List.map qpc [f, lo, hi, st])[Int.toNat 1]? = some (qpc lo) := rfl
    have g2 : (List.map qpc [f, lo, hi, st])[Int.toNat 2]? = some (qpc hi) := rfl
    have g3 : (List.map qpc [f, lo, hi, st])[Int.toNat 3]? = some (qpc st) := rfl
    simp only [g0, g1, g2, g3, optE, ld_q, ld_q0, ld_q1]
    simp only [List.all_cons, List.all_nil, Bool.and_true] at ha
    have ha' := ha
    simp only [Bool.and_eq_true] at ha
    obtain ⟨h1, h2, h3, h5⟩ := ha
    rw [Wtt h2 h1, Wg2]
    rw [ctl4, ha', Bool.true_and]
    cases c1 : decide (f.1 * lo.2 < lo.1 * f.2) with
    | true => rfl
    | false =>
     rw [Bool.not_false, bx_t]
     rw [Wtt h1 h3, Wg2]
     cases c2 : decide (hi.1 * f.2 < f.1 * hi.2) with
     | true => rfl
     | false =>
      rw [Bool.not_false, bx_t]
      cases c3 : decide (st.1 < 0) with
      | true => rfl
      | false =>
       rw [bx_f]
       cases c4 : (st.1 == 0) with
       | true => rfl
       | false =>
        rw [bx_f]
        have b2 := Wg1 h2
        have b5 := Wg1 h5
        have el : lo.2 = ((lo.2.natAbs : Nat) : Int) := by omega
        have es : st.2 = ((st.2.natAbs : Nat) : Int) := by omega
        have hlc : Kg2 lo.2 st.2 = Kg2 ((lo.2.natAbs : Nat) : Int) ((st.2.natAbs : Nat) : Int) := by rw [← el, ← es]
        rw [hlc, Wzh _ _ (by omega) (by omega)]
        have hp : 0 < Nat.lcm lo.2.natAbs st.2.natAbs := Nat.lcm_pos (by omega) (by omega)
        unfold inR
        generalize Nat.lcm lo.2.natAbs st.2.natAbs = c at *
        unfold inC
        by_cases hc : c ≤ 1073741824
        ·rw [if_pos hc, decide_eq_true hc]
         have e0 : ((c : Int) == 0) = false := by simp; omega
         rw [e0, bx_f]
         refine Eq.trans (Wty _ _ _ c hc h2 h3 ((fun z => k z), k true)) ?_
         cases ends c lo.1 lo.2 && ends c hi.1 hi.2 <;> rfl
        ·rw [if_neg hc, decide_eq_false hc]; rfl
  ·have e0 : (!(((List.length (X.map qpc) : Nat) : Int) != 4)) = false := by simp; omega
   show bx _ _ _ = _
   rw [e0, bx_f, Wtx h4]
end Go.Proofs.YtgohccjmphapfaaGreatDoor
end

noncomputable section
namespace Go.Proofs.YtgohccjmphapfaaGreatDoor
open Go Go.Pv Go.RowKit
def emp (s : W4w) : Bool := s.toList == ByteArray.toList ⟨#[]⟩
def nul (fk : W4w) (fi ff : Int) (fr fo : W4w) : Bool := (fk.toList == ByteArray.toList (⟨#[]⟩)) && ((fi == 0) && ((ff == 0) && ((fr.toList == ByteArray.toList (⟨#[]⟩)) && ((fo.toList == ByteArray.toList (⟨#[]⟩)) && true))))
def own (s : Sh) (kn : Int) (nm nl : Bool) (n m : Int) (len : Int) : Bool := (kn == s.kids) && (((decide (s.ints ≥ 1)) || (n == 0)) && (((decide (s.ints ≥ 2)) || (m == 0)) && ((s.fmt || nl) && ((s.name || nm) && (s.nums || (len == 0))))))
def ownO (r : Option Sh) (kn : Int) (nm nl : Bool) (n m : Int) (len : Int) : Bool := match r with | none => false | some s => own s kn nm nl n m len
theorem L1 (k : KB) (a b : Bool) : bx (!a) (k b) (k true) = k (a || b) := by cases a <;> rfl
theorem L2 (k : KB) (a b : Bool) : bx a (k b) (k false) = k (a && b) := by cases a <;> rfl
theorem L3 (k : KB) (a b c : Bool) : bx (!a) (k (b && c)) (k c) = k ((a || b) && c) := by cases a <;> rfl
theorem L4 (k : KB) (a b c : Bool) : bx a (k b) (k c) = k (bif a then b else c) := by cases a <;> rfl
theorem Wwo (op name : W4w) (n m : Int) (X : W4x) (fk : W4w) (fi ff : Int) (fr fo : W4w) (K : W4x) (k : KB) : Klj op name n m X fk fi ff fr fo K k = k (ownO (shp op.toList) K.length (emp name) (nul fk fi ff fr fo) n m X.length) := by
 unfold Klj Kvu
 rw [K2y]
 cases shp op.toList with
 | none => rfl
 | some s =>
  simp only [shK, bx_t, L1 k, L2 k, L3 k]
  rfl
theorem cn1 (a b : Bool) : (bif a then b else false) = (a && b) := by cases a <;> rfl
theorem cn2 (a b : Bool) : (bif a then false else b) = (!a && b) := by cases a <;> rfl
theorem Wwp (X : List (Int × Int)) (k : KB) : (bx (((List.length (X.map qpc) : Nat) : Int) == 1) (optE ((X.map qpc)[Int.toNat 0]?) (fun e1 => Ki3 e1 0 (fun v2 v3 => Kqt v2 v3 (fun r4 => k r4)))) (k false)) = k (decide (X.length = 1) && X.all vq) := by
 match X with
 | [] => rfl
 | [q] => show Kqt q.1 q.2 _ = _; rw [Wjo]; simp
 | q :: r :: s =>
  have e : (((List.length ((q :: r :: s).map qpc) : Nat) : Int) == 1) = false := by simp; omega
  have e2 : decide ((q :: r :: s).length = 1) = false := by simp
  rw [e, bx_f, e2, Bool.false_and]
def rng (l : List UInt8) (P nV : Bool) (n m : Int) (X : List (Int × Int)) : Bool :=
 bif l == [110, 117, 109] then decide (X.length = 1) && X.all vq else
 bif l == [102, 105, 116] then nV else
 bif l == [100, 101, 108, 97, 121] then decide (0 ≤ n) && decide (n ≤ 4096) else
 bif l == [118, 97, 114, 121] then decide (0 ≤ n) && (decide (n ≤ m) && decide (m ≤ 4096)) else
 bif l == [116, 97, 98, 108, 101] then decide (1 ≤ X.length ∧ X.length ≤ 256) && X.all vq else
 bif l == [115, 116, 111, 114, 101] then decide (1 ≤ X.length ∧ X.length ≤ 256) && X.all vq else
 bif l == [119, 97, 118, 101] then decide (1 ≤ X.length ∧ X.length ≤ 256) && X.all vq else
 bif l == [107, 110, 111, 98] then P && ctl X else
 bif l == [115, 104, 111, 119] then P else
 bif l == [117, 112] then decide (1 ≤ n) && decide (n ≤ 8) else
 bif l == [100, 111, 119, 110] then decide (1 ≤ n) && decide (n ≤ 8) else true
theorem Wr8 (op name : W4w) (n m : Int) (X : List (Int × Int)) (hl : X.length < 9223372036854775807) (fk : W4w) (fi ff : Int) (fr fo : W4w) (K : W4x) (k : KB) : Kpr op name n m (X.map qpc) fk fi ff fr fo K k = k (rng op.toList (K4h name) (Z.vld fk fr fo fi ff) n m X) := by
 unfold Kpr Kz5 rng
 simp only [tl, Wwp X k, Wg0, Wr5 X hl, Wts, Wmi X hl, L2 k]
 simp only [L4 k]
def rng2 (l : List UInt8) (n m : Int) (X : List (Int × Int)) : Bool :=
 bif l == [100, 101, 108, 97, 121] then decide (n ≥ 0) && decide (n ≤ 4096) else
 bif l == [118, 97, 114, 121] then decide (n ≥ 0) && (decide (n ≤ m) && decide (m ≤ 4096)) else
 bif l == [107, 110, 111, 98] then ctl X else
 bif l == [117, 112] then decide (n ≥ 1) && decide (n ≤ 8) else
 bif l == [100, 111, 119, 110] then decide (n ≥ 1) && decide (n ≤ 8) else true
theorem Wmj (f1 : W22) (f2 : W2n) (f3 : W3h) (op : W4w) (n m : Int) (X : List (Int × Int)) (hl : X.length < 9223372036854775807) (κ : W34) : ∀ (r d : List (Int × Int)), X = d ++ r → LF (Kev Kgw f1 f2 f3) (r.length + 1) (.h0 op n m (X.map qpc) d.length) κ = bx (r.all vq) (κ.2 op n m (X.map qpc)) (κ.1 op n m (X.map qpc) false)
 | [], d, hX => by
  simp only [LF, Kev, List.length_map]
  have : decide ((d.length : Int) < (X.length : Int)) = false := by simp [hX]
  rw [this, bx_f]; rfl
 | q :: r, d, hX => by
  have hlx : X.length = d.length + r.length + 1 := by simp [hX]; omega
  have ih := Wmj f1 f2 f3 op n m X hl κ r (d ++ [q]) (by simp [hX])
  have h1 : decide ((d.length : Int) < (X.length : Int)) = true := by simp; omega
  have h2 : decide (0 ≤ (d.length : Int)) = true := by simp
  have h3 : (X.map qpc)[Int.toNat (d.length : Int)]? = some (qpc q) := by simp [hX]
  rw [show (q :: r).length + 1 = (r.length + 1) + 1 from rfl, LF]
  simp only [Kev, List.length_map, h1, h2, h3, bx_t, optE, ld_q, Wtr]
  rw [Kcp (by omega) (by omega), show (d.length : Int) + 1 = ((d ++ [q]).length : Nat) by simp, ih]
  have hq : vq (q.1, q.2) = vq q := rfl
  rw [hq]
  cases hp : vq q with
  | true => simp [List.all_cons, hp, bx_f]
  | false => simp [List.all_cons, hp, bx_t, bx_f]
theorem Wwq (f1 : W22) (f2 : W2n) (f3 : W3h) (op : W4w) (n m : Int) (X : List (Int × Int)) (hl : X.length < 9223372036854775807) (κ : W34) : LF (Kev Kgw f1 f2 f3) (Kfq (Kb6.h0 op n m (X.map qpc) 0)) (.h0 op n m (X.map qpc) 0) κ = bx (X.all vq) (κ.2 op n m (X.map qpc)) (κ.1 op n m (X.map qpc) false) := by
 have hf : Kfq (Kb6.h0 op n m (X.map qpc) 0) = X.length + 1 := by simp [Kfq]
 rw [hf]; exact Wmj f1 f2 f3 op n m X hl κ X [] rfl
def ask (s : Sh) (l : List UInt8) (P nm nl V : Bool) (n m : Int) (X : List (Int × Int)) : Bool :=
 (bif s.name then P else nm) && (((decide (s.ints ≥ 1)) || (n == 0)) && (((decide (s.ints ≥ 2)) || (m == 0)) && ((bif s.fmt then V else nl) && (!(decide ((X.length : Int) < s.least)) && (!(decide ((X.length : Int) > s.most)) && (X.all vq && rng2 l n m X))))))
theorem Wr9 (s : Sh) (op name : W4w) (hn : name.size < 9223372036854775807) (n m : Int) (X : List (Int × Int)) (hl : X.length < 9223372036854775807) (fk : W4w) (fi ff : Int) (fr fo : W4w) (k : KB) :
  Kf6 s.ins s.outs s.kids (decide (s.ints ≥ 1)) (decide (s.ints ≥ 2)) s.name s.fmt s.least s.most op name n m (X.map qpc) fk fi ff fr fo k = k (ask s op.toList (K4h name) (emp name) (nul fk fi ff fr fo) (Z.vld fk fr fo fi ff) n m X) := by
 obtain ⟨i, o, kd, ints, fmt, nme, nums, least, most⟩ := s
 unfold Kf6 Kqp Kpn Kpm Kpl Kpk Kpj Kpi ask rng2 emp
 simp only []
 have hnul : ((fk.toList == ByteArray.toList (⟨#[]⟩)) && ((fi == 0) && ((ff == 0) && ((fr.toList == ByteArray.toList (⟨#[]⟩)) && ((fo.toList == ByteArray.toList (⟨#[]⟩)) && true))))) = nul fk fi ff fr fo := rfl
 simp only [hnul]
 generalize nul fk fi ff fr fo = nl
 generalize decide (ints ≥ 1) = i1
 generalize decide (ints ≥ 2) = i2
 cases nme <;> cases i1 <;> cases i2 <;> cases fmt <;>
  (simp only [Bool.not_true, Bool.not_false, bx_t, bx_f, bne, Bool.not_not, cond_true, cond_false, Bool.true_or, Bool.false_or, Bool.true_and]
   simp only [Wwq _ _ _ op n m X hl, Wwn name hn, Wmf, Wor X hl, List.length_map, L2 k]
   simp only [L4 k]
   simp only [cn1, cn2, Bool.not_not]
   try simp only [tl])
def askO (r : Option Sh) (l : List UInt8) (kn : Int) (P nm nl V : Bool) (n m : Int) (X : List (Int × Int)) : Bool := match r with | none => false | some s => (kn == s.kids) && ask s l P nm nl V n m X
end Go.Proofs.YtgohccjmphapfaaGreatDoor
end
