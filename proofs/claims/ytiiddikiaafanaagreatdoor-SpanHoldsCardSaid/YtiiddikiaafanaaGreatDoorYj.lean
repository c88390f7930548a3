import Derived.Test.YtiiddikiaafanaaGreatDoorYa
import Derived.Test.YtiiddikiaafanaaGreatDoorSj
set_option linter.all false
/-
  Plain mathematics of formats, part four: the order of what is fitted.
-/
namespace Go.Proofs.YtiiddikiaafanaaGreatDoor
open Go.Pv Go.RowKit
namespace Z
theorem mk_num {n d : Int} (hn : -1073741824 ≤ n ∧ n ≤ 1073741824) (hd : 1 ≤ d ∧ d ≤ 1073741824) : Q.isq (Q.mk n d).1 (Q.mk n d).2 = true := by
  rcases Q.mk_isq n d with h | h
  · exfalso
    unfold Q.mk Q.low at h
    have hg := Q.gcd_pos' n d (by omega)
    have h1 := Nat.div_le_self n.natAbs (n.natAbs.gcd d.natAbs)
    have h2 := Nat.div_le_self d.natAbs (n.natAbs.gcd d.natAbs)
    have h3 : 0 < d.natAbs / n.natAbs.gcd d.natAbs := Nat.div_pos (Nat.le_of_dvd (by omega) (Nat.gcd_dvd_right _ _)) hg
    rw [if_neg (by omega), if_neg (by omega)] at h
    have := congrArg Prod.snd h
    simp only at this
    omega
  · exact h
end Z
namespace Z
theorem cmp_le {a b : Int × Int} (ha : Q.isq a.1 a.2 = true) (hb : Q.isq b.1 b.2 = true) : ¬ 0 < Q.cmp a b ↔ a.1 * b.2 ≤ b.1 * a.2 := by
  unfold Q.cmp Q.cmpi
  rw [if_pos ((Q.both_iff _ _).2 ⟨ha, hb⟩)]
  constructor
  · intro h; split at h <;> (try split at h) <;> omega
  · intro h; split <;> (try split) <;> omega
end Z
namespace Z
theorem den_pos' {p : Int × Int} (h : Q.isq p.1 p.2 = true) : 0 < p.2 := Q.den_pos h
end Z
namespace Z
theorem mk_le {A B D : Int} (hD : 0 < D) (ha : Q.isq (Q.mk A D).1 (Q.mk A D).2 = true) (hb : Q.isq (Q.mk B D).1 (Q.mk B D).2 = true) (h : A ≤ B) : (Q.mk A D).1 * (Q.mk B D).2 ≤ (Q.mk B D).1 * (Q.mk A D).2 := by
  have c1 := Q.mk_cross (n := A) (d := D) (by omega) ha
  have c2 := Q.mk_cross (n := B) (d := D) (by omega) hb
  have p1 := den_pos' ha
  have p2 := den_pos' hb
  generalize (Q.mk A D).1 = a1 at *
  generalize (Q.mk A D).2 = a2 at *
  generalize (Q.mk B D).1 = b1 at *
  generalize (Q.mk B D).2 = b2 at *
  apply Int.le_of_mul_le_mul_right _ hD
  have e1 : a1 * b2 * D = A * (a2 * b2) := by rw [Int.mul_right_comm, c1, Int.mul_assoc]
  have e2 : b1 * a2 * D = B * (a2 * b2) := by rw [Int.mul_right_comm, c2, Int.mul_assoc, Int.mul_comm b2]
  rw [e1, e2]
  exact Int.mul_le_mul_of_nonneg_right h (Int.le_of_lt (Int.mul_pos p1 p2))
end Z
namespace Z
structure Cl (o : Nat) (lo hi W D : Int) (neg : Bool) (v : Int × Int) : Prop where
  e : v = if -lo ≤ W ∧ W ≤ hi then Q.mk W D else if o = 2 then (0, 0) else if neg = true then Q.mk (-lo) D else Q.mk hi D
  up : hi < W → neg = false
  dn : W < -lo → neg = true
end Z
namespace Z
theorem cl_form {o : Nat} {lo hi W D : Int} {neg : Bool} {v : Int × Int} (c : Cl o lo hi W D neg v) (h : -lo ≤ hi) (hv : Q.isq v.1 v.2 = true) : v = Q.mk (if W < -lo then -lo else if hi < W then hi else W) D := by
  rw [c.e]
  by_cases h1 : -lo ≤ W ∧ W ≤ hi
  · rw [if_pos h1, if_neg (by omega), if_neg (by omega)]
  · rw [if_neg h1]
    by_cases h2 : o = 2
    · exfalso; rw [c.e, if_neg h1, if_pos h2] at hv; exact absurd hv (by decide)
    · rw [if_neg h2]
      by_cases h3 : W < -lo
      · rw [if_pos (c.dn h3), if_pos h3]
      · rw [if_neg (by rw [c.up (by omega)]; decide), if_neg h3, if_pos (by omega)]
end Z
namespace Z
theorem cl_mono {o : Nat} {lo hi W W' D : Int} {neg neg' : Bool} {v v' : Int × Int} (c : Cl o lo hi W D neg v) (c' : Cl o lo hi W' D neg' v') (hD : 0 < D) (h : -lo ≤ hi) (hv : Q.isq v.1 v.2 = true) (hv' : Q.isq v'.1 v'.2 = true) (hW : W ≤ W') : v.1 * v'.2 ≤ v'.1 * v.2 := by
  have e := cl_form c h hv
  have e' := cl_form c' h hv'
  rw [e] at hv ⊢
  rw [e'] at hv' ⊢
  apply mk_le hD hv hv'
  split <;> split <;> (try split) <;> (try split) <;> omega
end Z
namespace Z
theorem fix_cl {o m I F : Nat} {n d : Int} (ho : o ≠ 1) (hd : 0 < d) (h : I + F ≤ 30) : Cl o (2 ^ (I + F)) (2 ^ (I + F) - 1) (rnd m (n * 2 ^ F) d) (2 ^ F) (decide (n < 0)) (fixV o m I F n d) := by
  have hp := (pb_of h).h
  have hs : ∀ x : Int, 0 ≤ x → 0 ≤ x * 2 ^ F := fun x hx => Int.mul_nonneg hx (by have := p2_pos F; omega)
  refine ⟨?_, ?_, ?_⟩
  · unfold fixV bey lst grt
    rw [if_neg ho]
    by_cases h1 : -(2 ^ (I + F)) ≤ rnd m (n * 2 ^ F) d ∧ rnd m (n * 2 ^ F) d < 2 ^ (I + F)
    · rw [if_pos h1, if_pos (by omega)]
    · have h2 : ¬ (-(2 ^ (I + F)) ≤ rnd m (n * 2 ^ F) d ∧ rnd m (n * 2 ^ F) d ≤ 2 ^ (I + F) - 1) := by omega
      rw [if_neg h1, if_neg h2]; rfl
  · intro h1
    apply decide_eq_false
    intro hn
    have h2 : n * 2 ^ F ≤ 0 * d := by
      have := Int.mul_neg_of_neg_of_pos hn (show (0 : Int) < 2 ^ F by have := p2_pos F; omega); omega
    have := rnd_le m (n * 2 ^ F) d 0 hd h2
    omega
  · intro h1
    apply decide_eq_true
    apply Classical.byContradiction
    intro hn
    have := rnd_ge m (n * 2 ^ F) d 0 hd (by have := hs n (by omega); omega)
    omega
end Z
namespace Z
def flW (m I F : Nat) (n d : Int) : Int := if expo I F n d = F + 1 then (if n < 0 then -(2 ^ (I + 2 * F)) else 2 ^ (I + 2 * F)) else rndE m n d (-expo I F n d) * 2 ^ (expo I F n d + F).toNat
end Z
namespace Z
theorem expo_le {I F : Nat} {n d y : Int} (hy : -(F : Int) ≤ y) (hb : below n d (I + y) = true) : expo I F n d ≤ y := by
  obtain ⟨s1, s2, s3, s4⟩ := flx_spec I n d (2 * F + 1) (-(F : Int))
  unfold expo
  apply Classical.byContradiction
  intro hc
  rw [s4 y hy (by omega)] at hb
  cases hb
end Z
namespace Z
theorem expo_mono {I F : Nat} {n d n' d' : Int} (hd : 0 < d) (hd' : 0 < d') (h : (n.natAbs : Int) * d' ≤ (n'.natAbs : Int) * d) : expo I F n d ≤ expo I F n' d' := by
  obtain ⟨s1, s2, s3, s4⟩ := flx_spec I n d (2 * F + 1) (-(F : Int))
  obtain ⟨t1, t2, t3, t4⟩ := flx_spec I n' d' (2 * F + 1) (-(F : Int))
  by_cases hx : expo I F n' d' = F + 1
  · unfold expo at *; omega
  · apply expo_le t1
    have hb := t3 (by unfold expo at hx; omega)
    generalize flx I n' d' (2 * F + 1) (-(F : Int)) = Y at *
    obtain ⟨a, b, hab⟩ : ∃ a b : Nat, (a : Int) - b = I + Y := ⟨(I + Y).toNat, (-(I + Y)).toNat, by omega⟩
    rw [below_iff _ _ _ a b hab] at hb ⊢
    have pa := p2_pos a
    have pb := p2_pos b
    have h1 : (n'.natAbs : Int) * 2 ^ b * d < d' * 2 ^ a * d := Int.mul_lt_mul_of_pos_right hb hd
    have h2 : (n.natAbs : Int) * d' * 2 ^ b ≤ (n'.natAbs : Int) * d * 2 ^ b := Int.mul_le_mul_of_nonneg_right h (by omega)
    apply Int.lt_of_mul_lt_mul_right _ (Int.le_of_lt hd')
    rw [Int.mul_right_comm] at h1
    rw [Int.mul_right_comm (n.natAbs : Int), Int.mul_right_comm d]
    have e : d' * 2 ^ a * d = d * d' * 2 ^ a := by rw [Int.mul_right_comm, Int.mul_comm d']
    omega
end Z
namespace Z
structure FW (m I F : Nat) (n d X W : Int) : Prop where
  lo : -(F : Int) ≤ X
  hi : X ≤ F + 1
  bd : -(2 ^ (I + (X + F).toNat)) ≤ W ∧ W ≤ 2 ^ (I + (X + F).toNat)
  big : -(F : Int) < X → (0 ≤ n → 2 ^ (I + (X + F).toNat - 1) ≤ W) ∧ (n < 0 → W ≤ -(2 ^ (I + (X + F).toNat - 1)))
  sg : (0 ≤ n → 0 ≤ W) ∧ (n ≤ 0 → W ≤ 0 ∨ X = F + 1)
end Z
namespace Z
theorem fw_of {m I F : Nat} {n d : Int} (h : I + F ≤ 30) (hI : 1 ≤ I) (hn : -2305843009213693952 ≤ n ∧ n ≤ 2305843009213693952) (hd : 1 ≤ d ∧ d ≤ 1152921504606846976) : FW m I F n d (expo I F n d) (flW m I F n d) := by
  obtain ⟨s1, s2, s3, s4⟩ := flx_spec I n d (2 * F + 1) (-(F : Int))
  have hE : expo I F n d = flx I n d (2 * F + 1) (-(F : Int)) := rfl
  rw [← hE] at s1 s2 s3 s4
  unfold flW
  by_cases hX : expo I F n d = F + 1
  · rw [if_pos hX, hX]
    have e : ((F : Int) + 1 + F).toNat = 2 * F + 1 := by omega
    have hm := p2_mono (show I + 2 * F ≤ I + (2 * F + 1) by omega)
    have hq := p2_pos (I + 2 * F)
    refine ⟨by omega, by omega, by rw [e]; split <;> omega, fun _ => ?_, by split <;> omega⟩
    rw [e, show I + (2 * F + 1) - 1 = I + 2 * F by omega]
    split <;> omega
  · rw [if_neg hX]
    obtain ⟨f1, f2, f3, f4⟩ := flo_at (m := m) h hI hn hd rfl (show expo I F n d ≤ F by omega)
    have hsg : (0 ≤ n → 0 ≤ rndE m n d (-expo I F n d)) ∧ (n ≤ 0 → rndE m n d (-expo I F n d) ≤ 0) := by
      unfold rndE
      have hD : 0 < d * 2 ^ (- -expo I F n d).toNat := Int.mul_pos (by omega) (by have := p2_pos (- -expo I F n d).toNat; omega)
      have hpp := p2_pos (-expo I F n d).toNat
      exact ⟨fun h0 => rnd_ge _ _ _ 0 hD (by have := Int.mul_nonneg h0 (show (0 : Int) ≤ 2 ^ (-expo I F n d).toNat by omega); omega), fun h0 => rnd_le _ _ _ 0 hD (by have := Int.mul_nonneg (show 0 ≤ -n by omega) (show (0 : Int) ≤ 2 ^ (-expo I F n d).toNat by omega); rw [Int.neg_mul] at this; omega)⟩
    have hbig : -(F : Int) < expo I F n d → (0 ≤ n ∧ 2 ^ (I - 1) ≤ rndE m n d (-expo I F n d)) ∨ (n < 0 ∧ rndE m n d (-expo I F n d) ≤ -(2 ^ (I - 1))) := fun hx => by
      have hnb := s4 (expo I F n d - 1) (by omega) (by omega)
      have : ¬ below n d (I + (expo I F n d - 1)) = true := by rw [hnb]; decide
      rw [below_iff n d _ ((I - 1) + (expo I F n d).toNat) (-expo I F n d).toNat (by omega)] at this
      unfold rndE
      rw [show (- -expo I F n d).toNat = (expo I F n d).toNat by omega]
      have hD : 0 < d * 2 ^ (expo I F n d).toNat := Int.mul_pos (by omega) (by have := p2_pos (expo I F n d).toNat; omega)
      have hr := rnd_big m (n * 2 ^ (-expo I F n d).toNat) (d * 2 ^ (expo I F n d).toNat) (2 ^ (I - 1)) hD (by
        rw [natAbs_p2, Int.mul_left_comm, ← p2_add]; omega)
      have hpp := p2_pos (-expo I F n d).toNat
      rcases hr with ⟨a, b⟩ | ⟨a, b⟩
      · left; refine ⟨?_, b⟩
        apply Classical.byContradiction; intro hc
        have := Int.mul_neg_of_neg_of_pos (show n < 0 by omega) (show (0 : Int) < 2 ^ (-expo I F n d).toNat by omega); omega
      · right; refine ⟨?_, b⟩
        apply Classical.byContradiction; intro hc
        have := Int.mul_nonneg (show 0 ≤ n by omega) (show (0 : Int) ≤ 2 ^ (-expo I F n d).toNat by omega); omega
    generalize rndE m n d (-expo I F n d) = M at *
    generalize expo I F n d = X at *
    have hj := p2_pos (X + F).toNat
    have e1 : (2 : Int) ^ (I + (X + F).toNat) = 2 ^ I * 2 ^ (X + F).toNat := p2_add _ _
    refine ⟨s1, by omega, ?_, fun hx => ?_, ?_⟩
    · rw [e1, ← Int.neg_mul]
      exact ⟨Int.mul_le_mul_of_nonneg_right f4.1 (by omega), Int.mul_le_mul_of_nonneg_right f4.2 (by omega)⟩
    · have e2 : (2 : Int) ^ (I + (X + F).toNat - 1) = 2 ^ (I - 1) * 2 ^ (X + F).toNat := by rw [← p2_add]; congr 1; omega
      rw [e2, ← Int.neg_mul]
      rcases hbig hx with ⟨a, b⟩ | ⟨a, b⟩
      · exact ⟨fun _ => Int.mul_le_mul_of_nonneg_right b (by omega), fun hh => by omega⟩
      · exact ⟨fun hh => by omega, fun _ => Int.mul_le_mul_of_nonneg_right b (by omega)⟩
    · constructor
      · intro h0; exact Int.mul_nonneg (hsg.1 h0) (by omega)
      · intro h0; left
        have := Int.mul_nonneg (show 0 ≤ -M by have := hsg.2 h0; omega) (show (0 : Int) ≤ 2 ^ (X + F).toNat by omega)
        rw [Int.neg_mul] at this; omega
end Z
namespace Z
theorem flW_mono {m I F : Nat} {n d n' d' : Int} (h : I + F ≤ 30) (hI : 1 ≤ I) (hn : -2305843009213693952 ≤ n ∧ n ≤ 2305843009213693952) (hd : 1 ≤ d ∧ d ≤ 1152921504606846976) (hn' : -2305843009213693952 ≤ n' ∧ n' ≤ 2305843009213693952) (hd' : 1 ≤ d' ∧ d' ≤ 1152921504606846976) (hle : n * d' ≤ n' * d) : flW m I F n d ≤ flW m I F n' d' := by
  have w := fw_of (m := m) h hI hn hd
  have w' := fw_of (m := m) h hI hn' hd'
  have hneg : n' < 0 → n < 0 := fun h0 => by
    apply Classical.byContradiction; intro hc
    have a1 := Int.mul_nonneg (show 0 ≤ n by omega) (show 0 ≤ d' by omega)
    have a2 := Int.mul_neg_of_neg_of_pos h0 (show 0 < d by omega)
    omega
  by_cases hX : expo I F n d = expo I F n' d'
  · unfold flW
    rw [← hX]
    by_cases hF : expo I F n d = F + 1
    · rw [if_pos hF, if_pos hF]
      have := p2_pos (I + 2 * F)
      split <;> split <;> (try omega)
    · rw [if_neg hF, if_neg hF]
      apply Int.mul_le_mul_of_nonneg_right _ (by have := p2_pos (expo I F n d + F).toNat; omega)
      unfold rndE
      have pp := p2_pos (- -expo I F n d).toNat
      have pq := p2_pos (-expo I F n d).toNat
      apply rnd_mono _ _ _ _ _ (Int.mul_pos (by omega) (by omega)) (Int.mul_pos (by omega) (by omega))
      have e1 : n * 2 ^ (-expo I F n d).toNat * (d' * 2 ^ (- -expo I F n d).toNat) = n * d' * (2 ^ (-expo I F n d).toNat * 2 ^ (- -expo I F n d).toNat) := by
        simp only [Int.mul_assoc, Int.mul_left_comm]
      have e2 : n' * 2 ^ (-expo I F n d).toNat * (d * 2 ^ (- -expo I F n d).toNat) = n' * d * (2 ^ (-expo I F n d).toNat * 2 ^ (- -expo I F n d).toNat) := by
        simp only [Int.mul_assoc, Int.mul_left_comm]
      rw [e1, e2]
      exact Int.mul_le_mul_of_nonneg_right hle (Int.mul_nonneg (by omega) (by omega))
  · by_cases hlt : expo I F n d < expo I F n' d'
    · have hb := w'.big (by have := w.lo; omega)
      have hp := p2_mono (show I + (expo I F n d + F).toNat ≤ I + (expo I F n' d' + F).toNat - 1 by have := w.lo; omega)
      by_cases h0 : 0 ≤ n'
      · have := hb.1 h0; have := w.bd.2; omega
      · exfalso
        have hn0 := hneg (by omega)
        have := expo_mono (I := I) (F := F) (n := n') (d := d') (n' := n) (d' := d) (by omega) (by omega) (by
          rw [show (n'.natAbs : Int) = -n' by omega, show (n.natAbs : Int) = -n by omega, Int.neg_mul, Int.neg_mul]; omega)
        omega
    · have hgt : expo I F n' d' < expo I F n d := by omega
      have hb := w.big (by have := w'.lo; omega)
      have hp := p2_mono (show I + (expo I F n' d' + F).toNat ≤ I + (expo I F n d + F).toNat - 1 by have := w'.lo; omega)
      by_cases h0 : n < 0
      · have := hb.2 h0; have := w'.bd.1; omega
      · exfalso
        have hn0 : 0 ≤ n' := by apply Classical.byContradiction; intro hc; exact h0 (hneg (by omega))
        have := expo_mono (I := I) (F := F) (n := n) (d := d) (n' := n') (d' := d') (by omega) (by omega) (by
          rw [show (n'.natAbs : Int) = n' by omega, show (n.natAbs : Int) = n by omega]; exact hle)
        omega
end Z
namespace Z
theorem pw_mk (F : Nat) (M X : Int) (hX : -(F : Int) ≤ X) : pw M X = Q.mk (M * 2 ^ (X + F).toNat) (2 ^ F) := by
  have pF := p2_pos F
  unfold pw
  by_cases h : X < 0
  · rw [if_pos h]
    apply mk_eq (by have := p2_pos (-X).toNat; omega) (by omega)
    rw [Int.mul_assoc, ← p2_add]; congr 2; omega
  · rw [if_neg h]
    apply mk_eq (by decide) (by omega)
    rw [Int.mul_one, Int.mul_assoc, ← p2_add]; congr 2; omega
end Z
namespace Z
theorem float_cl {o m I F : Nat} {n d : Int} (h : I + F ≤ 30) (hI : 1 ≤ I) (hn : -2305843009213693952 ≤ n ∧ n ≤ 2305843009213693952) (hd : 1 ≤ d ∧ d ≤ 1152921504606846976) :
    Cl o ((2 ^ I - 1) * 2 ^ (2 * F)) ((2 ^ I - 1) * 2 ^ (2 * F)) (flW m I F n d) (2 ^ F) (decide (n < 0)) (floatV o m I F n d) := by
  have w := fw_of (m := m) h hI hn hd
  have pF := p2_pos F
  have p2F := p2_pos (2 * F)
  have pI := p2_pos I
  have pI1 := p2_pos (I - 1)
  have eI : (2 : Int) ^ I = 2 * 2 ^ (I - 1) := by rw [show I = (I - 1) + 1 by omega, Int.pow_succ, Int.mul_comm]; rfl
  have eT : (2 : Int) ^ (I + 2 * F) = (2 ^ I - 1) * 2 ^ (2 * F) + 2 ^ (2 * F) := by rw [p2_add, Int.sub_mul]; omega
  have hH0 : 0 ≤ (2 ^ I - 1 : Int) * 2 ^ (2 * F) := Int.mul_nonneg (by omega) (by omega)
  have hlst : Q.mk (-((2 ^ I - 1) * 2 ^ F)) 1 = Q.mk (-((2 ^ I - 1) * 2 ^ (2 * F))) (2 ^ F) := by
    apply mk_eq (by decide) (by omega)
    rw [Int.mul_one, show 2 * F = F + F by omega, p2_add, Int.neg_mul, Int.mul_assoc]
  have hgrt : Q.mk ((2 ^ I - 1) * 2 ^ F) 1 = Q.mk ((2 ^ I - 1) * 2 ^ (2 * F)) (2 ^ F) := by
    apply mk_eq (by decide) (by omega)
    rw [Int.mul_one, show 2 * F = F + F by omega, p2_add, Int.mul_assoc]
  have hbey : ∀ neg, bey o false I F neg = if o = 2 then (0, 0) else if neg = true then Q.mk (-((2 ^ I - 1) * 2 ^ (2 * F))) (2 ^ F) else Q.mk ((2 ^ I - 1) * 2 ^ (2 * F)) (2 ^ F) := fun neg => by
    unfold bey lst grt
    rw [hlst, hgrt]; rfl
  refine ⟨?_, ?_, ?_⟩
  · unfold floatV
    rw [hbey]
    by_cases hX : expo I F n d = F + 1
    · rw [if_pos hX]
      have hW : flW m I F n d = if n < 0 then -(2 ^ (I + 2 * F)) else 2 ^ (I + 2 * F) := by unfold flW; rw [if_pos hX]
      have hno : ¬ (-((2 ^ I - 1) * 2 ^ (2 * F)) ≤ flW m I F n d ∧ flW m I F n d ≤ (2 ^ I - 1) * 2 ^ (2 * F)) := by rw [hW]; split <;> omega
      rw [if_neg hno]
    · rw [if_neg hX]
      have hW : flW m I F n d = rndE m n d (-expo I F n d) * 2 ^ (expo I F n d + F).toNat := by unfold flW; rw [if_neg hX]
      obtain ⟨f1, f2, f3, f4⟩ := flo_at (m := m) h hI hn hd rfl (show expo I F n d ≤ F by have := w.hi; omega)
      by_cases h2 : expo I F n d = F ∧ (rndE m n d (-expo I F n d) = 2 ^ I ∨ rndE m n d (-expo I F n d) = -(2 ^ I))
      · have hno : ¬ (-((2 ^ I - 1) * 2 ^ (2 * F)) ≤ flW m I F n d ∧ flW m I F n d ≤ (2 ^ I - 1) * 2 ^ (2 * F)) := by
          rw [hW, show (expo I F n d + F).toNat = 2 * F by omega]
          have e3 : (2 : Int) ^ I * 2 ^ (2 * F) = 2 ^ (I + 2 * F) := (p2_add _ _).symm
          rcases h2.2 with h3 | h3
          · rw [h3]; omega
          · rw [h3, Int.neg_mul]; omega
        rw [if_pos h2, if_neg hno]
      · have hyes : -((2 ^ I - 1) * 2 ^ (2 * F)) ≤ flW m I F n d ∧ flW m I F n d ≤ (2 ^ I - 1) * 2 ^ (2 * F) := by
          rw [hW]
          by_cases h3 : expo I F n d = F
          · have hM : -(2 ^ I - 1) ≤ rndE m n d (-expo I F n d) ∧ rndE m n d (-expo I F n d) ≤ 2 ^ I - 1 := by omega
            rw [show (expo I F n d + F).toNat = 2 * F by omega, ← Int.neg_mul]
            exact ⟨Int.mul_le_mul_of_nonneg_right hM.1 (by omega), Int.mul_le_mul_of_nonneg_right hM.2 (by omega)⟩
          · have hb := w.bd
            rw [hW] at hb
            have hhi := w.hi
            have hm := p2_mono (show I + (expo I F n d + F).toNat ≤ (I - 1) + 2 * F by omega)
            have e4 : (2 : Int) ^ (I - 1 + 2 * F) = 2 ^ (I - 1) * 2 ^ (2 * F) := p2_add _ _
            have h5 : (2 : Int) ^ (I - 1) * 2 ^ (2 * F) ≤ (2 ^ I - 1) * 2 ^ (2 * F) := Int.mul_le_mul_of_nonneg_right (by omega) (by omega)
            omega
        rw [if_neg h2, if_pos hyes, hW]
        exact pw_mk F _ _ f1
  · intro h1
    apply decide_eq_false
    intro hn0
    by_cases hX : expo I F n d = F + 1
    · have hW : flW m I F n d = -(2 ^ (I + 2 * F)) := by unfold flW; rw [if_pos hX, if_pos hn0]
      have := p2_pos (I + 2 * F); omega
    · rcases w.sg.2 (by omega) with h2 | h2
      · omega
      · exact hX h2
  · intro h1
    apply decide_eq_true
    apply Classical.byContradiction
    intro hn0
    have := w.sg.1 (by omega)
    omega
end Z
namespace Z
theorem fit_parts {k r o : ByteArray} {I F n d : Int} (h : Q.isq (fitQ k r o I F n d).1 (fitQ k r o I F n d).2 = true) : Q.isq n d = true ∧ vld k r o I F = true ∧ fitQ k r o I F n d = fitV k o (rdm r) I.toNat F.toNat n d := by
  unfold fitQ at h ⊢
  by_cases hc : (Q.isq n d && vld k r o I F) = true
  · rw [if_pos hc]
    rw [Bool.and_eq_true] at hc
    exact ⟨hc.1, hc.2, rfl⟩
  · rw [if_neg hc] at h; exact absurd h (by decide)
end Z
theorem fit_facts {kd r o : ByteArray} {I F : Int} (h : Z.vld kd r o I F = true) :
    Q.isq (Z.lstQ kd r o I F).1 (Z.lstQ kd r o I F).2 = true ∧ Q.isq (Z.grtQ kd r o I F).1 (Z.grtQ kd r o I F).2 = true ∧ S.ooo (Z.lstQ kd r o I F).1 (Z.lstQ kd r o I F).2 (Z.grtQ kd r o I F).1 (Z.grtQ kd r o I F).2 = false ∧
    (Z.stpQ kd r o I F).2 = 2 ^ F.toNat ∧ 0 ≤ F ∧ F ≤ 30 ∧ (1 : Int) ≤ 2 ^ F.toNat ∧ (2 : Int) ^ F.toNat ≤ 1073741824 := by
  obtain ⟨m, i, f, hm, hm2, hr, rfl, rfl, hs⟩ := vld_open h
  have hp := pb_of hs
  have top := top_bd hs
  have h1 := hp.h
  have h2 := hp.f
  unfold Z.lstQ Z.grtQ Z.stpQ Z.lst Z.grt
  simp only [if_pos h, show ((i : Int)).toNat = i by omega, show ((f : Int)).toNat = f by omega]
  have hstep : (Q.mk 1 (2 ^ f)).2 = 2 ^ f := by
    have hq : Q.isq (1 : Int) ((2 : Int) ^ f) = true := (Q.isq_iff _ _).2 ⟨by omega, by omega, h2.1, h2.2, by simp⟩
    have := Q.mk_id (a := (1, 2 ^ f)) hq
    exact congrArg Prod.snd this
  refine ⟨?_, ?_, ?_, hstep, by omega, by omega, h2.1, h2.2⟩
  · split
    · exact Z.mk_num (by omega) h2
    · exact Z.mk_num (by omega) (by omega)
  · split
    · exact Z.mk_num (by omega) h2
    · exact Z.mk_num (by omega) (by omega)
  · unfold S.ooo
    split
    · have a := Z.mk_num (n := -(2 ^ (i + f))) (d := 2 ^ f) (by omega) h2
      have b := Z.mk_num (n := 2 ^ (i + f) - 1) (d := 2 ^ f) (by omega) h2
      have c := (Z.cmp_le a b).2 (Z.mk_le (by omega) a b (by omega))
      rw [decide_eq_false c, Bool.and_false]
    · have a := Z.mk_num (n := -((2 ^ i - 1) * 2 ^ f)) (d := 1) (by omega) (by omega)
      have b := Z.mk_num (n := (2 ^ i - 1) * 2 ^ f) (d := 1) (by omega) (by omega)
      have c := (Z.cmp_le a b).2 (Z.mk_le (by omega) a b (by omega))
      rw [decide_eq_false c, Bool.and_false]
theorem fit_wrap {kd r o : ByteArray} {I F n d : Int} (hv : Z.vld kd r o I F = true) (hw : (o.toList == [119, 114, 97, 112]) = true) (hq : Q.isq n d = true) :
    Q.isq (Z.fitQ kd r o I F n d).1 (Z.fitQ kd r o I F n d).2 = true := by
  have hk : (kd.toList == [102, 105, 120]) = true := by
    have h := hv
    unfold Z.vld Z.hov at h
    rw [lit_ne hw (b := [115, 97, 116]) (by decide), lit_ne hw (b := [110, 111, 110, 101]) (by decide), hw] at h
    simp only [Bool.and_eq_true, Bool.false_or, Bool.true_and] at h
    exact h.2
  have e : Z.fitQ kd r o I F n d = Z.fitV kd o (Z.rdm r) I.toNat F.toNat n d := by unfold Z.fitQ; rw [if_pos (by rw [hq, hv]; rfl)]
  rw [e]
  obtain ⟨m, i, f, hm, hm2, hr, rfl, rfl, hs⟩ := vld_open hv
  have hp := pb_of hs
  have h1 := hp.h
  simp only [show ((i : Int)).toNat = i by omega, show ((f : Int)).toNat = f by omega]
  unfold Z.fitV
  rw [if_pos hk, ov_wrap hw]
  unfold Z.fixV
  rw [if_pos rfl]
  refine Z.mk_num ?_ hp.f
  generalize (2 : Int) ^ (i + f) = H at *
  generalize Z.rnd _ _ _ + H = x
  have g1 := Int.emod_nonneg x (show 2 * H ≠ 0 by omega)
  have g2 := Int.emod_lt_of_pos x (show 0 < 2 * H by omega)
  omega
theorem fit_valid {kd r o : ByteArray} {I F n d : Int} : Q.valid ((Z.fitQ kd r o I F n d).1, (Z.fitQ kd r o I F n d).2) = true := by
  rcases fitQ_num (k := kd) (r := r) (o := o) (I := I) (F := F) (n := n) (d := d) with h | h
  · rw [h]; rfl
  · unfold Q.valid; simp only [h, Bool.or_true]
theorem isopen_eq {a b : Int} (h : Q.valid (a, b) = true) (k : Bool → Option DV) : span_isOpen a b k = k (!Q.isq a b) := by
  unfold span_isOpen B_span_isOpen
  rw [open_eq h]
theorem valid_of {a b : Int} (h : Q.isq a b = true) : Q.valid (a, b) = true := by unfold Q.valid; simp only [h, Bool.or_true]
theorem among_eq {a b c d L1 L2 G1 G2 n : Int} {x y : Bool} (hL : Q.isq L1 L2 = true) (hG : Q.isq G1 G2 = true) (hc : Q.valid (c, d) = true) (k : Bool → Option DV) :
    span_isAmong a b c d L1 L2 G1 G2 n x y k = k (!decide (Q.cmp (a, b) (L1, L2) < 0) && (Q.isq c d && !decide (Q.cmp (c, d) (G1, G2) > 0))) := by
  unfold span_isAmong B_span_isAmong ratio_Cmp
  simp only [isopen_eq (valid_of hL), isopen_eq (valid_of hG), isopen_eq hc, hL, hG, ge_not, le_not]
  cases decide (Q.cmp (a, b) (L1, L2) < 0) <;> cases Q.isq c d <;> rfl
theorem cmp_less {a b c d : Int} (h : Q.isq a b = false) (h2 : Q.isq c d = true) : decide (Q.cmp (a, b) (c, d) < 0) = true := by
  unfold Q.cmp Q.both Q.rank Q.cmpi
  simp [h, h2]
end Go.Proofs.YtiiddikiaafanaaGreatDoor
