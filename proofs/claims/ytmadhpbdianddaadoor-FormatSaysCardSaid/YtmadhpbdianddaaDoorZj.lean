/-
  Plain mathematics of formats, part four: what is fitted is kept, the order is kept, how far off.
-/
import Derived.Test.YtmadhpbdianddaaDoorZk
namespace Go.Proofs.YtmadhpbdianddaaDoor
open Go.RowKit
namespace Z
theorem cmp_le {a b : Int × Int} (ha : Q.isq a.1 a.2 = true) (hb : Q.isq b.1 b.2 = true) : ¬ 0 < Q.cmp a b ↔ a.1 * b.2 ≤ b.1 * a.2 := by
  unfold Q.cmp Q.cmpi
  rw [if_pos ((Q.both_iff _ _).2 ⟨ha, hb⟩)]
  constructor
  · intro h; split at h <;> (try split at h) <;> omega
  · intro h; split <;> (try split) <;> omega
theorem den_pos' {p : Int × Int} (h : Q.isq p.1 p.2 = true) : 0 < p.2 := Q.den_pos h
theorem mk_le {A B D : Int} (hD : 0 < D) (ha : Q.isq (Q.mk A D).1 (Q.mk A D).2 = true) (hb : Q.isq (Q.mk B D).1 (Q.mk B D).2 = true) (h : A ≤ B) : (Q.mk A D).1 * (Q.mk B D).2 ≤ (Q.mk B D).1 * (Q.mk A D).2 := by
  have c1 := Q.mk_cross (n := A) (d := D) (by omega) ha
  have c2 := Q.mk_cross (n := B) (d := D) (by omega) hb
  have p1 := den_pos' ha
  have p2 := den_pos' hb
  generalize (Q.mk A D).1 = a1 at *
  generalize (Q.mk A D).2 = a2 at *
  generalize (Q.mk B D).1 = b1 at *
  generalize (Q.mk B D).2 = b2 at *
  apply Int.le_of_mul_le_mul_right _ hD
  have e1 : a1 * b2 * D = A * (a2 * b2) := by rw [Int.mul_right_comm, c1, Int.mul_assoc]
  have e2 : b1 * a2 * D = B * (a2 * b2) := by rw [Int.mul_right_comm, c2, Int.mul_assoc, Int.mul_comm b2]
  rw [e1, e2]
  exact Int.mul_le_mul_of_nonneg_right h (Int.le_of_lt (Int.mul_pos p1 p2))
/-- Clamped. -/
structure Cl (o : Nat) (lo hi W D : Int) (neg : Bool) (v : Int × Int) : Prop where
  e : v = if -lo ≤ W ∧ W ≤ hi then Q.mk W D else if o = 2 then (0, 0) else if neg = true then Q.mk (-lo) D else Q.mk hi D
  up : hi < W → neg = false
  dn : W < -lo → neg = true
theorem cl_form {o : Nat} {lo hi W D : Int} {neg : Bool} {v : Int × Int} (c : Cl o lo hi W D neg v) (h : -lo ≤ hi) (hv : Q.isq v.1 v.2 = true) : v = Q.mk (if W < -lo then -lo else if hi < W then hi else W) D := by
  rw [c.e]
  by_cases h1 : -lo ≤ W ∧ W ≤ hi
  · rw [if_pos h1, if_neg (by omega), if_neg (by omega)]
  · rw [if_neg h1]
    by_cases h2 : o = 2
    · exfalso; rw [c.e, if_neg h1, if_pos h2] at hv; exact absurd hv (by decide)
    · rw [if_neg h2]
      by_cases h3 : W < -lo
      · rw [if_pos (c.dn h3), if_pos h3]
      · rw [if_neg (by rw [c.up (by omega)]; decide), if_neg h3, if_pos (by omega)]
theorem cl_mono {o : Nat} {lo hi W W' D : Int} {neg neg' : Bool} {v v' : Int × Int} (c : Cl o lo hi W D neg v) (c' : Cl o lo hi W' D neg' v') (hD : 0 < D) (h : -lo ≤ hi) (hv : Q.isq v.1 v.2 = true) (hv' : Q.isq v'.1 v'.2 = true) (hW : W ≤ W') : v.1 * v'.2 ≤ v'.1 * v.2 := by
  have e := cl_form c h hv
  have e' := cl_form c' h hv'
  rw [e] at hv ⊢
  rw [e'] at hv' ⊢
  apply mk_le hD hv hv'
  split <;> split <;> (try split) <;> (try split) <;> omega
/-- A fix, clamped. -/
theorem fix_cl {o m I F : Nat} {n d : Int} (ho : o ≠ 1) (hd : 0 < d) (h : I + F ≤ 30) : Cl o (2 ^ (I + F)) (2 ^ (I + F) - 1) (rnd m (n * 2 ^ F) d) (2 ^ F) (decide (n < 0)) (fixV o m I F n d) := by
  have hp := (pb_of h).h
  have hs : ∀ x : Int, 0 ≤ x → 0 ≤ x * 2 ^ F := fun x hx => Int.mul_nonneg hx (by have := p2_pos F; omega)
  refine ⟨?_, ?_, ?_⟩
  · unfold fixV bey lst grt
    rw [if_neg ho]
    by_cases h1 : -(2 ^ (I + F)) ≤ rnd m (n * 2 ^ F) d ∧ rnd m (n * 2 ^ F) d < 2 ^ (I + F)
    · rw [if_pos h1, if_pos (by omega)]
    · have h2 : ¬ (-(2 ^ (I + F)) ≤ rnd m (n * 2 ^ F) d ∧ rnd m (n * 2 ^ F) d ≤ 2 ^ (I + F) - 1) := by omega
      rw [if_neg h1, if_neg h2]; rfl
  · intro h1
    apply decide_eq_false
    intro hn
    have h2 : n * 2 ^ F ≤ 0 * d := by
      have := Int.mul_neg_of_neg_of_pos hn (show (0 : Int) < 2 ^ F by have := p2_pos F; omega); omega
    have := rnd_le m (n * 2 ^ F) d 0 hd h2
    omega
  · intro h1
    apply decide_eq_true
    apply Classical.byContradiction
    intro hn
    have := rnd_ge m (n * 2 ^ F) d 0 hd (by have := hs n (by omega); omega)
    omega
/-- A float by the finest step, before it is clamped. -/
def flW (m I F : Nat) (n d : Int) : Int := if expo I F n d = F + 1 then (if n < 0 then -(2 ^ (I + 2 * F)) else 2 ^ (I + 2 * F)) else rndE m n d (-expo I F n d) * 2 ^ (expo I F n d + F).toNat
theorem expo_le {I F : Nat} {n d y : Int} (hy : -(F : Int) ≤ y) (hb : below n d (I + y) = true) : expo I F n d ≤ y := by
  obtain ⟨s1, s2, s3, s4⟩ := flx_spec I n d (2 * F + 1) (-(F : Int))
  unfold expo
  apply Classical.byContradiction
  intro hc
  rw [s4 y hy (by omega)] at hb
  cases hb
theorem expo_mono {I F : Nat} {n d n' d' : Int} (hd : 0 < d) (hd' : 0 < d') (h : (n.natAbs : Int) * d' ≤ (n'.natAbs : Int) * d) : expo I F n d ≤ expo I F n' d' := by
  obtain ⟨s1, s2, s3, s4⟩ := flx_spec I n d (2 * F + 1) (-(F : Int))
  obtain ⟨t1, t2, t3, t4⟩ := flx_spec I n' d' (2 * F + 1) (-(F : Int))
  by_cases hx : expo I F n' d' = F + 1
  · unfold expo at *; omega
  · apply expo_le t1
    have hb := t3 (by unfold expo at hx; omega)
    generalize flx I n' d' (2 * F + 1) (-(F : Int)) = Y at *
    obtain ⟨a, b, hab⟩ : ∃ a b : Nat, (a : Int) - b = I + Y := ⟨(I + Y).toNat, (-(I + Y)).toNat, by omega⟩
    rw [below_iff _ _ _ a b hab] at hb ⊢
    have pa := p2_pos a
    have pb := p2_pos b
    have h1 : (n'.natAbs : Int) * 2 ^ b * d < d' * 2 ^ a * d := Int.mul_lt_mul_of_pos_right hb hd
    have h2 : (n.natAbs : Int) * d' * 2 ^ b ≤ (n'.natAbs : Int) * d * 2 ^ b := Int.mul_le_mul_of_nonneg_right h (by omega)
    apply Int.lt_of_mul_lt_mul_right _ (Int.le_of_lt hd')
    rw [Int.mul_right_comm] at h1
    rw [Int.mul_right_comm (n.natAbs : Int), Int.mul_right_comm d]
    have e : d' * 2 ^ a * d = d * d' * 2 ^ a := by rw [Int.mul_right_comm, Int.mul_comm d']
    omega
structure FW (m I F : Nat) (n d X W : Int) : Prop where
  lo : -(F : Int) ≤ X
  hi : X ≤ F + 1
  bd : -(2 ^ (I + (X + F).toNat)) ≤ W ∧ W ≤ 2 ^ (I + (X + F).toNat)
  big : -(F : Int) < X → (0 ≤ n → 2 ^ (I + (X + F).toNat - 1) ≤ W) ∧ (n < 0 → W ≤ -(2 ^ (I + (X + F).toNat - 1)))
  sg : (0 ≤ n → 0 ≤ W) ∧ (n ≤ 0 → W ≤ 0 ∨ X = F + 1)
theorem fw_of {m I F : Nat} {n d : Int} (h : I + F ≤ 30) (hI : 1 ≤ I) (hn : -2305843009213693952 ≤ n ∧ n ≤ 2305843009213693952) (hd : 1 ≤ d ∧ d ≤ 1152921504606846976) : FW m I F n d (expo I F n d) (flW m I F n d) := by
  obtain ⟨s1, s2, s3, s4⟩ := flx_spec I n d (2 * F + 1) (-(F : Int))
  have hE : expo I F n d = flx I n d (2 * F + 1) (-(F : Int)) := rfl
  rw [← hE] at s1 s2 s3 s4
  unfold flW
  by_cases hX : expo I F n d = F + 1
  · rw [if_pos hX, hX]
    have e : ((F : Int) + 1 + F).toNat = 2 * F + 1 := by omega
    have hm := p2_mono (show I + 2 * F ≤ I + (2 * F + 1) by omega)
    have hq := p2_pos (I + 2 * F)
    refine ⟨by omega, by omega, by rw [e]; split <;> omega, fun _ => ?_, by split <;> omega⟩
    rw [e, show I + (2 * F + 1) - 1 = I + 2 * F by omega]
    split <;> omega
  · rw [if_neg hX]
    obtain ⟨f1, f2, f3, f4⟩ := flo_at (m := m) h hI hn hd rfl (show expo I F n d ≤ F by omega)
    have hsg : (0 ≤ n → 0 ≤ rndE m n d (-expo I F n d)) ∧ (n ≤ 0 → rndE m n d (-expo I F n d) ≤ 0) := by
      unfold rndE
      have hD : 0 < d * 2 ^ (- -expo I F n d).toNat := Int.mul_pos (by omega) (by have := p2_pos (- -expo I F n d).toNat; omega)
      have hpp := p2_pos (-expo I F n d).toNat
      exact ⟨fun h0 => rnd_ge _ _ _ 0 hD (by have := Int.mul_nonneg h0 (show (0 : Int) ≤ 2 ^ (-expo I F n d).toNat by omega); omega), fun h0 => rnd_le _ _ _ 0 hD (by have := Int.mul_nonneg (show 0 ≤ -n by omega) (show (0 : Int) ≤ 2 ^ (-expo I F n d).toNat by omega); rw [Int.neg_mul] at this; omega)⟩
    have hbig : -(F : Int) < expo I F n d → (0 ≤ n ∧ 2 ^ (I - 1) ≤ rndE m n d (-expo I F n d)) ∨ (n < 0 ∧ rndE m n d (-expo I F n d) ≤ -(2 ^ (I - 1))) := fun hx => by
      have hnb := s4 (expo I F n d - 1) (by omega) (by omega)
      have : ¬ below n d (I + (expo I F n d - 1)) = true := by rw [hnb]; decide
      rw [below_iff n d _ ((I - 1) + (expo I F n d).toNat) (-expo I F n d).toNat (by omega)] at this
      unfold rndE
      rw [show (- -expo I F n d).toNat = (expo I F n d).toNat by omega]
      have hD : 0 < d * 2 ^ (expo I F n d).toNat := Int.mul_pos (by omega) (by have := p2_pos (expo I F n d).toNat; omega)
      have hr := rnd_big m (n * 2 ^ (-expo I F n d).toNat) (d * 2 ^ (expo I F n d).toNat) (2 ^ (I - 1)) hD (by
        rw [natAbs_p2, Int.mul_left_comm, ← p2_add]; omega)
      have hpp := p2_pos (-expo I F n d).toNat
      rcases hr with ⟨a, b⟩ | ⟨a, b⟩
      · left; refine ⟨?_, b⟩
        apply Classical.byContradiction; intro hc
        have := Int.mul_neg_of_neg_of_pos (show n < 0 by omega) (show (0 : Int) < 2 ^ (-expo I F n d).toNat by omega); omega
      · right; refine ⟨?_, b⟩
        apply Classical.byContradiction; intro hc
        have := Int.mul_nonneg (show 0 ≤ n by omega) (show (0 : Int) ≤ 2 ^ (-expo I F n d).toNat by omega); omega
    generalize rndE m n d (-expo I F n d) = M at *
    generalize expo I F n d = X at *
    have hj := p2_pos (X + F).toNat
    have e1 : (2 : Int) ^ (I + (X + F).toNat) = 2 ^ I * 2 ^ (X + F).toNat := p2_add _ _
    refine ⟨s1, by omega, ?_, fun hx => ?_, ?_⟩
    · rw [e1, ← Int.neg_mul]
      exact ⟨Int.mul_le_mul_of_nonneg_right f4.1 (by omega), Int.mul_le_mul_of_nonneg_right f4.2 (by omega)⟩
    · have e2 : (2 : Int) ^ (I + (X + F).toNat - 1) = 2 ^ (I - 1) * 2 ^ (X + F).toNat := by rw [← p2_add]; congr 1; omega
      rw [e2, ← Int.neg_mul]
      rcases hbig hx with ⟨a, b⟩ | ⟨a, b⟩
      · exact ⟨fun _ => Int.mul_le_mul_of_nonneg_right b (by omega), fun hh => by omega⟩
      · exact ⟨fun hh => by omega, fun _ => Int.mul_le_mul_of_nonneg_right b (by omega)⟩
    · constructor
      · intro h0; exact Int.mul_nonneg (hsg.1 h0) (by omega)
      · intro h0; left
        have := Int.mul_nonneg (show 0 ≤ -M by have := hsg.2 h0; omega) (show (0 : Int) ≤ 2 ^ (X + F).toNat by omega)
        rw [Int.neg_mul] at this; omega
theorem flW_mono {m I F : Nat} {n d n' d' : Int} (h : I + F ≤ 30) (hI : 1 ≤ I) (hn : -2305843009213693952 ≤ n ∧ n ≤ 2305843009213693952) (hd : 1 ≤ d ∧ d ≤ 1152921504606846976) (hn' : -2305843009213693952 ≤ n' ∧ n' ≤ 2305843009213693952) (hd' : 1 ≤ d' ∧ d' ≤ 1152921504606846976) (hle : n * d' ≤ n' * d) : flW m I F n d ≤ flW m I F n' d' := by
  have w := fw_of (m := m) h hI hn hd
  have w' := fw_of (m := m) h hI hn' hd'
  have hneg : n' < 0 → n < 0 := fun h0 => by
    apply Classical.byContradiction; intro hc
    have a1 := Int.mul_nonneg (show 0 ≤ n by omega) (show 0 ≤ d' by omega)
    have a2 := Int.mul_neg_of_neg_of_pos h0 (show 0 < d by omega)
    omega
  by_cases hX : expo I F n d = expo I F n' d'
  · unfold flW
    rw [← hX]
    by_cases hF : expo I F n d = F + 1
    · rw [if_pos hF, if_pos hF]
      have := p2_pos (I + 2 * F)
      split <;> split <;> (try omega)
    · rw [if_neg hF, if_neg hF]
      apply Int.mul_le_mul_of_nonneg_right _ (by have := p2_pos (expo I F n d + F).toNat; omega)
      unfold rndE
      have pp := p2_pos (- -expo I F n d).toNat
      have pq := p2_pos (-expo I F n d).toNat
      apply rnd_mono _ _ _ _ _ (Int.mul_pos (by omega) (by omega)) (Int.mul_pos (by omega) (by omega))
      have e1 : n * 2 ^ (-expo I F n d).toNat * (d' * 2 ^ (- -expo I F n d).toNat) = n * d' * (2 ^ (-expo I F n d).toNat * 2 ^ (- -expo I F n d).toNat) := by
        simp only [Int.mul_assoc, Int.mul_left_comm]
      have e2 : n' * 2 ^ (-expo I F n d).toNat * (d * 2 ^ (- -expo I F n d).toNat) = n' * d * (2 ^ (-expo I F n d).toNat * 2 ^ (- -expo I F n d).toNat) := by
        simp only [Int.mul_assoc, Int.mul_left_comm]
      rw [e1, e2]
      exact Int.mul_le_mul_of_nonneg_right hle (Int.mul_nonneg (by omega) (by omega))
  · by_cases hlt : expo I F n d < expo I F n' d'
    · have hb := w'.big (by have := w.lo; omega)
      have hp := p2_mono (show I + (expo I F n d + F).toNat ≤ I + (expo I F n' d' + F).toNat - 1 by have := w.lo; omega)
      by_cases h0 : 0 ≤ n'
      · have := hb.1 h0; have := w.bd.2; omega
      · exfalso
        have hn0 := hneg (by omega)
        have := expo_mono (I := I) (F := F) (n := n') (d := d') (n' := n) (d' := d) (by omega) (by omega) (by
          rw [show (n'.natAbs : Int) = -n' by omega, show (n.natAbs : Int) = -n by omega, Int.neg_mul, Int.neg_mul]; omega)
        omega
    · have hgt : expo I F n' d' < expo I F n d := by omega
      have hb := w.big (by have := w'.lo; omega)
      have hp := p2_mono (show I + (expo I F n' d' + F).toNat ≤ I + (expo I F n d + F).toNat - 1 by have := w'.lo; omega)
      by_cases h0 : n < 0
      · have := hb.2 h0; have := w'.bd.1; omega
      · exfalso
        have hn0 : 0 ≤ n' := by apply Classical.byContradiction; intro hc; exact h0 (hneg (by omega))
        have := expo_mono (I := I) (F := F) (n := n) (d := d) (n' := n') (d' := d') (by omega) (by omega) (by
          rw [show (n'.natAbs : Int) = n' by omega, show (n.natAbs : Int) = n by omega]; exact hle)
        omega
theorem pw_mk (F : Nat) (M X : Int) (hX : -(F : Int) ≤ X) : pw M X = Q.mk (M * 2 ^ (X + F).toNat) (2 ^ F) := by
  have pF := p2_pos F
  unfold pw
  by_cases h : X < 0
  · rw [if_pos h]
    apply mk_eq (by have := p2_pos (-X).toNat; omega) (by omega)
    rw [Int.mul_assoc, ← p2_add]; congr 2; omega
  · rw [if_neg h]
    apply mk_eq (by decide) (by omega)
    rw [Int.mul_one, Int.mul_assoc, ← p2_add]; congr 2; omega
theorem float_cl {o m I F : Nat} {n d : Int} (h : I + F ≤ 30) (hI : 1 ≤ I) (hn : -2305843009213693952 ≤ n ∧ n ≤ 2305843009213693952) (hd : 1 ≤ d ∧ d ≤ 1152921504606846976) :
    Cl o ((2 ^ I - 1) * 2 ^ (2 * F)) ((2 ^ I - 1) * 2 ^ (2 * F)) (flW m I F n d) (2 ^ F) (decide (n < 0)) (floatV o m I F n d) := by
  have w := fw_of (m := m) h hI hn hd
  have pF := p2_pos F
  have p2F := p2_pos (2 * F)
  have pI := p2_pos I
  have pI1 := p2_pos (I - 1)
  have eI : (2 : Int) ^ I = 2 * 2 ^ (I - 1) := by rw [show I = (I - 1) + 1 by omega, Int.pow_succ, Int.mul_comm]; rfl
  have eT : (2 : Int) ^ (I + 2 * F) = (2 ^ I - 1) * 2 ^ (2 * F) + 2 ^ (2 * F) := by rw [p2_add, Int.sub_mul]; omega
  have hH0 : 0 ≤ (2 ^ I - 1 : Int) * 2 ^ (2 * F) := Int.mul_nonneg (by omega) (by omega)
  have hlst : Q.mk (-((2 ^ I - 1) * 2 ^ F)) 1 = Q.mk (-((2 ^ I - 1) * 2 ^ (2 * F))) (2 ^ F) := by
    apply mk_eq (by decide) (by omega)
    rw [Int.mul_one, show 2 * F = F + F by omega, p2_add, Int.neg_mul, Int.mul_assoc]
  have hgrt : Q.mk ((2 ^ I - 1) * 2 ^ F) 1 = Q.mk ((2 ^ I - 1) * 2 ^ (2 * F)) (2 ^ F) := by
    apply mk_eq (by decide) (by omega)
    rw [Int.mul_one, show 2 * F = F + F by omega, p2_add, Int.mul_assoc]
  have hbey : ∀ neg, bey o false I F neg = if o = 2 then (0, 0) else if neg = true then Q.mk (-((2 ^ I - 1) * 2 ^ (2 * F))) (2 ^ F) else Q.mk ((2 ^ I - 1) * 2 ^ (2 * F)) (2 ^ F) := fun neg => by
    unfold bey lst grt
    rw [hlst, hgrt]; rfl
  refine ⟨?_, ?_, ?_⟩
  · unfold floatV
    rw [hbey]
    by_cases hX : expo I F n d = F + 1
    · rw [if_pos hX]
      have hW : flW m I F n d = if n < 0 then -(2 ^ (I + 2 * F)) else 2 ^ (I + 2 * F) := by unfold flW; rw [if_pos hX]
      have hno : ¬ (-((2 ^ I - 1) * 2 ^ (2 * F)) ≤ flW m I F n d ∧ flW m I F n d ≤ (2 ^ I - 1) * 2 ^ (2 * F)) := by rw [hW]; split <;> omega
      rw [if_neg hno]
    · rw [if_neg hX]
      have hW : flW m I F n d = rndE m n d (-expo I F n d) * 2 ^ (expo I F n d + F).toNat := by unfold flW; rw [if_neg hX]
      obtain ⟨f1, f2, f3, f4⟩ := flo_at (m := m) h hI hn hd rfl (show expo I F n d ≤ F by have := w.hi; omega)
      by_cases h2 : expo I F n d = F ∧ (rndE m n d (-expo I F n d) = 2 ^ I ∨ rndE m n d (-expo I F n d) = -(2 ^ I))
      · have hno : ¬ (-((2 ^ I - 1) * 2 ^ (2 * F)) ≤ flW m I F n d ∧ flW m I F n d ≤ (2 ^ I - 1) * 2 ^ (2 * F)) := by
          rw [hW, show (expo I F n d + F).toNat = 2 * F by omega]
          have e3 : (2 : Int) ^ I * 2 ^ (2 * F) = 2 ^ (I + 2 * F) := (p2_add _ _).symm
          rcases h2.2 with h3 | h3
          · rw [h3]; omega
          · rw [h3, Int.neg_mul]; omega
        rw [if_pos h2, if_neg hno]
      · have hyes : -((2 ^ I - 1) * 2 ^ (2 * F)) ≤ flW m I F n d ∧ flW m I F n d ≤ (2 ^ I - 1) * 2 ^ (2 * F) := by
          rw [hW]
          by_cases h3 : expo I F n d = F
          · have hM : -(2 ^ I - 1) ≤ rndE m n d (-expo I F n d) ∧ rndE m n d (-expo I F n d) ≤ 2 ^ I - 1 := by omega
            rw [show (expo I F n d + F).toNat = 2 * F by omega, ← Int.neg_mul]
            exact ⟨Int.mul_le_mul_of_nonneg_right hM.1 (by omega), Int.mul_le_mul_of_nonneg_right hM.2 (by omega)⟩
          · have hb := w.bd
            rw [hW] at hb
            have hhi := w.hi
            have hm := p2_mono (show I + (expo I F n d + F).toNat ≤ (I - 1) + 2 * F by omega)
            have e4 : (2 : Int) ^ (I - 1 + 2 * F) = 2 ^ (I - 1) * 2 ^ (2 * F) := p2_add _ _
            have h5 : (2 : Int) ^ (I - 1) * 2 ^ (2 * F) ≤ (2 ^ I - 1) * 2 ^ (2 * F) := Int.mul_le_mul_of_nonneg_right (by omega) (by omega)
            omega
        rw [if_neg h2, if_pos hyes, hW]
        exact pw_mk F _ _ f1
  · intro h1
    apply decide_eq_false
    intro hn0
    by_cases hX : expo I F n d = F + 1
    · have hW : flW m I F n d = -(2 ^ (I + 2 * F)) := by unfold flW; rw [if_pos hX, if_pos hn0]
      have := p2_pos (I + 2 * F); omega
    · rcases w.sg.2 (by omega) with h2 | h2
      · omega
      · exact hX h2
  · intro h1
    apply decide_eq_true
    apply Classical.byContradiction
    intro hn0
    have := w.sg.1 (by omega)
    omega

theorem fit_parts {k r o : ByteArray} {I F n d : Int} (h : Q.isq (fitQ k r o I F n d).1 (fitQ k r o I F n d).2 = true) : Q.isq n d = true ∧ vld k r o I F = true ∧ fitQ k r o I F n d = fitV k o (rdm r) I.toNat F.toNat n d := by
  unfold fitQ at h ⊢
  by_cases hc : (Q.isq n d && vld k r o I F) = true
  · rw [if_pos hc]
    rw [Bool.and_eq_true] at hc
    exact ⟨hc.1, hc.2, rfl⟩
  · rw [if_neg hc] at h; exact absurd h (by decide)
/-- The order is kept. -/
theorem fit_mono {k r o : ByteArray} {I F : Int} {a b : Int × Int} (ho : (o.toList == [119, 114, 97, 112]) = false) (hx : Q.isq (fitQ k r o I F a.1 a.2).1 (fitQ k r o I F a.1 a.2).2 = true) (hy : Q.isq (fitQ k r o I F b.1 b.2).1 (fitQ k r o I F b.1 b.2).2 = true) (h : ¬ 0 < Q.cmp a b) : ¬ 0 < Q.cmp (fitQ k r o I F a.1 a.2) (fitQ k r o I F b.1 b.2) := by
  obtain ⟨qa, hv, ea⟩ := fit_parts hx
  obtain ⟨qb, _, eb⟩ := fit_parts hy
  rw [cmp_le qa qb] at h
  rw [cmp_le hx hy]
  rw [ea] at hx ⊢
  rw [eb] at hy ⊢
  have ba := (Q.isq_iff _ _).1 qa
  have bb := (Q.isq_iff _ _).1 qb
  obtain ⟨p1, p2, p3, p4, p5, p6⟩ := vld_parts hv
  obtain ⟨i, rfl⟩ := Int.eq_ofNat_of_zero_le p1
  obtain ⟨f, rfl⟩ := Int.eq_ofNat_of_zero_le p3
  simp only [show ((i : Int)).toNat = i by omega, show ((f : Int)).toNat = f by omega] at *
  have hs : i + f ≤ 30 := by omega
  have pf := (pb_of hs).f
  unfold fitV at *
  cases hk : (k.toList == [102, 105, 120])
  · rw [hk] at hx hy
    simp only [Bool.false_eq_true, if_false] at hx hy ⊢
    obtain ⟨_, i1, i2, i3, _⟩ := p6 hk
    have pT := p2_pos (2 * f)
    have pI := p2_pos i
    have hH := Int.mul_nonneg (show (0 : Int) ≤ 2 ^ i - 1 by omega) (show (0 : Int) ≤ 2 ^ (2 * f) by omega)
    exact cl_mono (float_cl hs (by omega) (by omega) (by omega)) (float_cl hs (by omega) (by omega) (by omega)) (by omega) (by omega) hx hy (flW_mono hs (by omega) (by omega) (by omega) (by omega) (by omega) h)
  · rw [hk] at hx hy
    simp only [if_true] at hx hy ⊢
    have ph := (pb_of hs).h
    have hle : a.1 * 2 ^ f * b.2 ≤ b.1 * 2 ^ f * a.2 := by
      rw [Int.mul_right_comm, Int.mul_right_comm b.1]
      exact Int.mul_le_mul_of_nonneg_right h (by omega)
    exact cl_mono (fix_cl (ov_not ho) (by omega) hs) (fix_cl (ov_not ho) (by omega) hs) (by omega) (by omega) hx hy (rnd_mono _ _ _ _ _ (by omega) (by omega) hle)
/-- What is fitted to a fix is one of its steps. -/
theorem fix_steps {o m I F : Nat} {n d : Int} (h : I + F ≤ 30) (hv : Q.isq (fixV o m I F n d).1 (fixV o m I F n d).2 = true) : ∃ t, (-(2 ^ (I + F)) ≤ t ∧ t < 2 ^ (I + F)) ∧ fixV o m I F n d = Q.mk t (2 ^ F) := by
  have hp := (pb_of h).h
  unfold fixV at hv ⊢
  by_cases h1 : o = 1
  · rw [if_pos h1]
    refine ⟨_, ?_, rfl⟩
    have m1 := Int.emod_nonneg (rnd m (n * 2 ^ F) d + 2 ^ (I + F)) (show (2 * 2 ^ (I + F) : Int) ≠ 0 by omega)
    have m2 := Int.emod_lt_of_pos (rnd m (n * 2 ^ F) d + 2 ^ (I + F)) (show (0 : Int) < 2 * 2 ^ (I + F) by omega)
    omega
  · rw [if_neg h1] at hv ⊢
    by_cases h2 : -(2 ^ (I + F)) ≤ rnd m (n * 2 ^ F) d ∧ rnd m (n * 2 ^ F) d < 2 ^ (I + F)
    · rw [if_pos h2]; exact ⟨_, h2, rfl⟩
    · rw [if_neg h2] at hv ⊢
      unfold bey lst grt at hv ⊢
      by_cases h3 : o = 2
      · rw [if_pos h3] at hv; exact absurd hv (by decide)
      · rw [if_neg h3]
        by_cases h4 : decide (n < 0) = true
        · rw [if_pos h4]; exact ⟨_, by omega, rfl⟩
        · rw [if_neg h4]; exact ⟨_, by omega, rfl⟩
/-- What is fitted to a float is one of its values. -/
theorem float_steps {o m I F : Nat} {n d : Int} (h : I + F ≤ 30) (hI : 1 ≤ I) (hn : -2305843009213693952 ≤ n ∧ n ≤ 2305843009213693952) (hd : 1 ≤ d ∧ d ≤ 1152921504606846976) (hv : Q.isq (floatV o m I F n d).1 (floatV o m I F n d).2 = true) :
    ∃ (t : Int) (j : Nat), (-(2 ^ I - 1) ≤ t ∧ t ≤ 2 ^ I - 1) ∧ j ≤ 2 * F ∧ floatV o m I F n d = Q.mk (t * 2 ^ j) (2 ^ F) := by
  have pI := p2_pos I
  have pI1 := p2_pos (I - 1)
  have pF := p2_pos F
  have eI : (2 : Int) ^ I = 2 * 2 ^ (I - 1) := by rw [show I = (I - 1) + 1 by omega, Int.pow_succ, Int.mul_comm]; rfl
  have hb : ∀ neg, bey o false I F neg = (0, 0) ∨ ∃ (t : Int) (j : Nat), (-(2 ^ I - 1) ≤ t ∧ t ≤ 2 ^ I - 1) ∧ j ≤ 2 * F ∧ bey o false I F neg = Q.mk (t * 2 ^ j) (2 ^ F) := fun neg => by
    unfold bey lst grt
    by_cases h3 : o = 2
    · left; rw [if_pos h3]
    · right; rw [if_neg h3]
      cases neg
      · refine ⟨2 ^ I - 1, 2 * F, by omega, by omega, ?_⟩
        simp only [if_true, if_false, Bool.false_eq_true]
        apply mk_eq (by decide) (by omega)
        rw [Int.mul_one, show 2 * F = F + F by omega, p2_add, Int.mul_assoc]
      · refine ⟨-(2 ^ I - 1), 2 * F, by omega, by omega, ?_⟩
        simp only [if_true, if_false, Bool.false_eq_true]
        apply mk_eq (by decide) (by omega)
        rw [Int.mul_one, show 2 * F = F + F by omega, p2_add, Int.neg_mul, Int.neg_mul, Int.mul_assoc]
  unfold floatV at hv ⊢
  by_cases hX : expo I F n d = F + 1
  · rw [if_pos hX] at hv ⊢
    rcases hb (decide (n < 0)) with h3 | h3
    · rw [h3] at hv; exact absurd hv (by decide)
    · exact h3
  · rw [if_neg hX] at hv ⊢
    have w := fw_of (m := m) h hI hn hd
    have hhi := w.hi
    have hlo := w.lo
    obtain ⟨f1, f2, f3, f4⟩ := flo_at (m := m) h hI hn hd rfl (show expo I F n d ≤ F by omega)
    by_cases h2 : expo I F n d = F ∧ (rndE m n d (-expo I F n d) = 2 ^ I ∨ rndE m n d (-expo I F n d) = -(2 ^ I))
    · rw [if_pos h2] at hv ⊢
      rcases hb (decide (n < 0)) with h3 | h3
      · rw [h3] at hv; exact absurd hv (by decide)
      · exact h3
    · rw [if_neg h2]
      generalize rndE m n d (-expo I F n d) = M at *
      generalize expo I F n d = X at *
      by_cases h3 : M = 2 ^ I
      · refine ⟨2 ^ (I - 1), (X + 1 + F).toNat, by omega, by omega, ?_⟩
        rw [h3, eI, pw_carry]; exact pw_mk F _ _ (by omega)
      · by_cases h4 : M = -(2 ^ I)
        · refine ⟨-(2 ^ (I - 1)), (X + 1 + F).toNat, by omega, by omega, ?_⟩
          rw [h4, eI, ← Int.mul_neg, pw_carry]; exact pw_mk F _ _ (by omega)
        · exact ⟨M, (X + F).toNat, by omega, by omega, pw_mk F _ _ f1⟩
theorem float_idem {o m I F : Nat} {n d t : Int} {j : Nat} (h : I + F ≤ 30) (hI : 1 ≤ I) (hq : Q.isq n d = true) (ht : -(2 ^ I - 1) ≤ t ∧ t ≤ 2 ^ I - 1) (hj : j ≤ 2 * F) (he : Q.mk (t * 2 ^ j) (2 ^ F) = (n, d)) : floatV o m I F n d = (n, d) := by
  have hb := (Q.isq_iff _ _).1 hq
  have pF := p2_pos F
  have pj := p2_pos j
  have hc : n * 2 ^ F = t * 2 ^ j * d := by
    have := Q.mk_cross (n := t * 2 ^ j) (d := 2 ^ F) (by omega) (by rw [he]; exact hq)
    rw [he] at this; exact this
  have hX : expo I F n d ≤ (j : Int) - F := by
    apply expo_le (by omega)
    rw [below_iff n d _ (I + j) F (by omega), ← natAbs_p2, hc, Int.natAbs_mul, Int.natAbs_mul]
    have h1 : ((t.natAbs * ((2 : Int) ^ j).natAbs * d.natAbs : Nat) : Int) = (t.natAbs : Int) * 2 ^ j * d := by
      rw [Int.natCast_mul, Int.natCast_mul, show (((2 : Int) ^ j).natAbs : Int) = 2 ^ j by omega, show (d.natAbs : Int) = d by omega]
    rw [h1, p2_add]
    have h2 : (t.natAbs : Int) * 2 ^ j < 2 ^ I * 2 ^ j := Int.mul_lt_mul_of_pos_right (by omega) (by omega)
    have h3 : (t.natAbs : Int) * 2 ^ j * d < 2 ^ I * 2 ^ j * d := Int.mul_lt_mul_of_pos_right h2 (by omega)
    rw [Int.mul_comm d]; exact h3
  have w := fw_of (m := m) (n := n) (d := d) h hI (by omega) (by omega)
  have hlo := w.lo
  have hr : rndE m n d (-expo I F n d) = t * 2 ^ ((j : Int) - F - expo I F n d).toNat := by
    unfold rndE
    generalize expo I F n d = X at *
    have e : n * 2 ^ (-X).toNat = t * 2 ^ ((j : Int) - F - X).toNat * (d * 2 ^ (- -X).toNat) := by
      apply Int.eq_of_mul_eq_mul_right (show (2 : Int) ^ F ≠ 0 by omega)
      rw [Int.mul_right_comm, hc]
      have e1 : t * 2 ^ j * d * 2 ^ (-X).toNat = t * d * (2 ^ (j + (-X).toNat)) := by rw [p2_add]; simp only [Int.mul_assoc, Int.mul_left_comm]
      have e2 : t * 2 ^ ((j : Int) - F - X).toNat * (d * 2 ^ (- -X).toNat) * 2 ^ F = t * d * (2 ^ (((j : Int) - F - X).toNat + ((- -X).toNat + F))) := by rw [p2_add, p2_add]; simp only [Int.mul_assoc, Int.mul_left_comm]
      rw [e1, e2]; congr 2; omega
    have hD : 0 < d * 2 ^ (- -X).toNat := Int.mul_pos (by omega) (by have := p2_pos (- -X).toNat; omega)
    rw [e]
    exact rnd_exact m _ _ hD
  have hW : flW m I F n d = t * 2 ^ j := by
    unfold flW
    rw [if_neg (by omega), hr, Int.mul_assoc, ← p2_add]; congr 2; omega
  have c := (float_cl (o := o) (m := m) (n := n) (d := d) h hI (by omega) (by omega)).e
  rw [c, hW, if_pos, he]
  have p2F := p2_mono hj
  have h1 : t * 2 ^ j ≤ (2 ^ I - 1) * 2 ^ j := Int.mul_le_mul_of_nonneg_right ht.2 (by omega)
  have h2 : -(2 ^ I - 1) * 2 ^ j ≤ t * 2 ^ j := Int.mul_le_mul_of_nonneg_right ht.1 (by omega)
  have h3 : (2 ^ I - 1 : Int) * 2 ^ j ≤ (2 ^ I - 1) * 2 ^ (2 * F) := Int.mul_le_mul_of_nonneg_left p2F (by have := p2_pos I; omega)
  rw [Int.neg_mul] at h2
  omega
/-- What is fitted is a value. -/
theorem fit_idem {k r o : ByteArray} {I F n d : Int} (hx : Q.isq (fitQ k r o I F n d).1 (fitQ k r o I F n d).2 = true) : fitQ k r o I F (fitQ k r o I F n d).1 (fitQ k r o I F n d).2 = fitQ k r o I F n d := by
  obtain ⟨qa, hv, ea⟩ := fit_parts hx
  have ba := (Q.isq_iff _ _).1 qa
  have key : ∀ x y : Int, Q.isq x y = true → fitQ k r o I F x y = fitV k o (rdm r) I.toNat F.toNat x y := fun x y hxy => by
    unfold fitQ
    rw [if_pos]
    rw [Bool.and_eq_true]; exact ⟨hxy, hv⟩
  rw [key _ _ hx]
  rw [ea] at hx ⊢
  obtain ⟨p1, p2, p3, p4, p5, p6⟩ := vld_parts hv
  obtain ⟨i, rfl⟩ := Int.eq_ofNat_of_zero_le p1
  obtain ⟨f, rfl⟩ := Int.eq_ofNat_of_zero_le p3
  simp only [show ((i : Int)).toNat = i by omega, show ((f : Int)).toNat = f by omega] at *
  have hs : i + f ≤ 30 := by omega
  unfold fitV at *
  cases hk : (k.toList == [102, 105, 120])
  · rw [hk] at hx
    simp only [Bool.false_eq_true, if_false] at hx ⊢
    obtain ⟨_, i1, i2, i3, _⟩ := p6 hk
    obtain ⟨t, j, ht, hj, he⟩ := float_steps hs (by omega) (by omega) (by omega) hx
    exact float_idem hs (by omega) hx ht hj he.symm
  · rw [hk] at hx
    simp only [if_true] at hx ⊢
    obtain ⟨t, ht, he⟩ := fix_steps hs hx
    rw [he]
    exact val_fix hs ht (val_of hs ht)

/-- How far off. -/
theorem fit_off {k r o : ByteArray} {I F n d : Int} (hx : isfx k r o I F = true) (hq : Q.isq n d = true) (h1 : ¬ 0 < Q.cmp (lstQ k r o I F) (n, d)) (h2 : ¬ 0 < Q.cmp (n, d) (grtQ k r o I F)) (hb : Q.isq (bndQ k r o I F).1.1 (bndQ k r o I F).1.2 = true)
    (hs : Q.isq (Q.abs (Q.sub (fitQ k r o I F n d) (n, d))).1 (Q.abs (Q.sub (fitQ k r o I F n d) (n, d))).2 = true) : ¬ 0 < Q.cmp (Q.abs (Q.sub (fitQ k r o I F n d) (n, d))) (bndQ k r o I F).1 := by
  rw [cmp_le hs hb]
  have hx' := hx
  unfold isfx at hx'
  rw [Bool.and_eq_true] at hx'
  obtain ⟨p1, p2, p3, p4, p5, p6⟩ := vld_parts hx'.1
  obtain ⟨i, rfl⟩ := Int.eq_ofNat_of_zero_le p1
  obtain ⟨f, rfl⟩ := Int.eq_ofNat_of_zero_le p3
  have h30 : i + f ≤ 30 := by omega
  have pb := pb_of h30
  have pf := pb.f
  have ph := pb.h
  have bq := (Q.isq_iff _ _).1 hq
  have q1f : Q.isq 1 (2 ^ f) = true := (Q.isq_iff 1 (2 ^ f)).2 ⟨by omega, by omega, pf.1, pf.2, by simp⟩
  have el : lstQ k r o (i : Int) (f : Int) = Q.mk (-(2 ^ (i + f))) (2 ^ f) := by unfold lstQ lst; rw [if_pos hx'.1, hx'.2]; rfl
  have eg : grtQ k r o (i : Int) (f : Int) = Q.mk (2 ^ (i + f) - 1) (2 ^ f) := by unfold grtQ grt; rw [if_pos hx'.1, hx'.2]; rfl
  have es : stpQ k r o (i : Int) (f : Int) = (1, 2 ^ f) := by
    unfold stpQ; rw [if_pos hx'.1, show ((f : Int)).toNat = f by omega]
    exact Q.mk_id (a := (1, 2 ^ f)) q1f
  have ql := mk_num (n := -(2 ^ (i + f))) (d := 2 ^ f) (by omega) pf
  have qg := mk_num (n := 2 ^ (i + f) - 1) (d := 2 ^ f) (by omega) pf
  rw [el, cmp_le ql hq] at h1
  rw [eg, cmp_le hq qg] at h2
  have cl := Q.mk_cross (n := -(2 ^ (i + f))) (d := 2 ^ f) (by omega) ql
  have cg := Q.mk_cross (n := 2 ^ (i + f) - 1) (d := 2 ^ f) (by omega) qg
  have dl := den_pos' ql
  have dg := den_pos' qg
  generalize Q.mk (-(2 ^ (i + f))) (2 ^ f) = l at *
  generalize Q.mk (2 ^ (i + f) - 1) (2 ^ f) = g at *
  simp only at h1 h2
  have g1 : -(2 ^ (i + f)) * d ≤ n * 2 ^ f := by
    apply Int.le_of_mul_le_mul_right _ dl
    have a1 : -(2 ^ (i + f)) * d * l.2 = l.1 * d * 2 ^ f := by rw [Int.mul_right_comm, ← cl, Int.mul_right_comm]
    have a2 : n * 2 ^ f * l.2 = n * l.2 * 2 ^ f := by rw [Int.mul_right_comm]
    rw [a1, a2]; exact Int.mul_le_mul_of_nonneg_right h1 (by omega)
  have g2 : n * 2 ^ f ≤ (2 ^ (i + f) - 1) * d := by
    apply Int.le_of_mul_le_mul_right _ dg
    have a1 : (2 ^ (i + f) - 1) * d * g.2 = g.1 * d * 2 ^ f := by rw [Int.mul_right_comm, ← cg, Int.mul_right_comm]
    have a2 : n * 2 ^ f * g.2 = n * g.2 * 2 ^ f := by rw [Int.mul_right_comm]
    rw [a1, a2]; exact Int.mul_le_mul_of_nonneg_right h2 (by omega)
  have k1 := rnd_ge (rdm r) (n * 2 ^ f) d _ (by omega) g1
  have k2 := rnd_le (rdm r) (n * 2 ^ f) d _ (by omega) g2
  have ef : fitQ k r o (i : Int) (f : Int) n d = Q.mk (rnd (rdm r) (n * 2 ^ f) d) (2 ^ f) := by
    unfold fitQ fitV
    rw [hq, hx'.1, if_pos (show (true && true) = true from rfl), if_pos hx'.2]
    simp only [show ((i : Int)).toNat = i by omega, show ((f : Int)).toNat = f by omega]
    unfold fixV
    by_cases h1 : ovn o = 1
    · rw [if_pos h1]; congr 1
      rw [Int.emod_eq_of_lt (by omega) (by omega)]; omega
    · rw [if_neg h1, if_pos (by omega)]
  have o1 := rnd_off (rdm r) (n * 2 ^ f) d (by omega)
  have o2 : (r.toList == [110, 101, 97, 114]) = true → -d ≤ 2 * (rnd (rdm r) (n * 2 ^ f) d * d - n * 2 ^ f) ∧ 2 * (rnd (rdm r) (n * 2 ^ f) d * d - n * 2 ^ f) ≤ d := fun hn => by
    have : rdm r = 1 := by unfold rdm; rw [hn]; rfl
    rw [this]; exact rnd_off1 _ _ (by omega)
  have qx := mk_num (n := rnd (rdm r) (n * 2 ^ f) d) (d := 2 ^ f) (by omega) pf
  have cx := Q.mk_cross (n := rnd (rdm r) (n * 2 ^ f) d) (d := 2 ^ f) (by omega) qx
  have dx := den_pos' qx
  rw [ef] at hs ⊢
  generalize rnd (rdm r) (n * 2 ^ f) d = K at *
  generalize Q.mk K (2 ^ f) = x at *
  -- the difference
  have hs0 : Q.isq (Q.sub x (n, d)).1 (Q.sub x (n, d)).2 = true := by
    unfold Q.abs at hs
    by_cases hc : Q.isq (Q.sub x (n, d)).1 (Q.sub x (n, d)).2 = true
    · exact hc
    · rw [if_neg hc] at hs; exact absurd hs (by decide)
  obtain ⟨ea, _⟩ := Q.abs_val hs0
  rw [ea]
  have hbo : Q.both x (n, d) = true := (Q.both_iff _ _).2 ⟨qx, hq⟩
  have esub : Q.sub x (n, d) = Q.mk (x.1 * d - n * x.2) (x.2 * d) := by unfold Q.sub; rw [if_pos hbo]
  have hxd : 0 < x.2 * d := Int.mul_pos dx (by omega)
  have hs1 := hs0
  rw [esub] at hs1
  have cs := Q.mk_cross (n := x.1 * d - n * x.2) (d := x.2 * d) (by omega) hs1
  rw [← esub] at cs
  have ds := den_pos' hs0
  generalize Q.sub x (n, d) = s at *
  -- |s.1| 2^f x.2 d = |K d - n 2^f| x.2 s.2
  have main : s.1 * 2 ^ f * (x.2 * d) = (K * d - n * 2 ^ f) * (x.2 * s.2) := by
    have b1 : s.1 * 2 ^ f * (x.2 * d) = s.1 * (x.2 * d) * 2 ^ f := by rw [Int.mul_right_comm]
    have b2 : (x.1 * d - n * x.2) * s.2 * 2 ^ f = (x.1 * 2 ^ f * d - n * 2 ^ f * x.2) * s.2 := by
      rw [Int.mul_right_comm, Int.sub_mul, Int.mul_right_comm x.1 d, Int.mul_right_comm n x.2]
    have b3 : (K * x.2 * d - n * 2 ^ f * x.2) * s.2 = (K * d - n * 2 ^ f) * (x.2 * s.2) := by
      rw [Int.mul_right_comm K x.2 d, ← Int.sub_mul, Int.mul_assoc]
    rw [b1, cs, b2, cx, b3]
  have hxs : 0 < x.2 * s.2 := Int.mul_pos dx ds
  have absb : ∀ c B : Int, 0 ≤ c → -B ≤ c * (K * d - n * 2 ^ f) → c * (K * d - n * 2 ^ f) ≤ B → c * ((s.1.natAbs : Int) * 2 ^ f) * (x.2 * d) ≤ B * (x.2 * s.2) := fun c B hc u1 u2 => by
    have m1 : c * (s.1 * 2 ^ f * (x.2 * d)) = c * (K * d - n * 2 ^ f) * (x.2 * s.2) := by rw [main, Int.mul_assoc]
    have v1 : c * (K * d - n * 2 ^ f) * (x.2 * s.2) ≤ B * (x.2 * s.2) := Int.mul_le_mul_of_nonneg_right u2 (Int.le_of_lt hxs)
    have v2 : -B * (x.2 * s.2) ≤ c * (K * d - n * 2 ^ f) * (x.2 * s.2) := Int.mul_le_mul_of_nonneg_right u1 (Int.le_of_lt hxs)
    rw [Int.neg_mul] at v2
    rcases natAbs_cases s.1 with ⟨_, e⟩ | ⟨_, e⟩
    · rw [e, Int.mul_assoc]; omega
    · rw [e, Int.neg_mul, Int.mul_neg, Int.neg_mul, Int.mul_assoc]; omega
  have ebn : (bndQ k r o (i : Int) (f : Int)).1 = if (r.toList == [110, 101, 97, 114]) = true then Q.div (1, 2 ^ f) (2, 1) else (1, 2 ^ f) := by
    unfold bndQ; rw [if_pos hx, es]
  rw [ebn] at hb ⊢
  have cancel : ∀ u v : Int, u * (x.2 * d) ≤ d * (x.2 * v) → u ≤ v := fun u v huv => by
    apply Int.le_of_mul_le_mul_right _ hxd
    rw [show v * (x.2 * d) = d * (x.2 * v) by rw [Int.mul_comm d, Int.mul_left_comm, Int.mul_assoc]]
    exact huv
  by_cases hn : (r.toList == [110, 101, 97, 114]) = true
  · rw [if_pos hn] at hb ⊢
    have o3 := o2 hn
    have hbb : Q.both (1, 2 ^ f) (2, 1) = true := (Q.both_iff _ _).2 ⟨q1f, by decide⟩
    have ed : Q.div (1, 2 ^ f) (2, 1) = Q.mk (1 * 1) (2 ^ f * 2) := by unfold Q.div; rw [if_pos hbb]
    rw [ed] at hb ⊢
    have cb := Q.mk_cross (n := 1 * 1) (d := 2 ^ f * 2) (by omega) hb
    have db := den_pos' hb
    generalize Q.mk (1 * 1) (2 ^ f * 2) = b at *
    have nb : 0 ≤ b.1 := by
      apply Classical.byContradiction; intro hc
      have := Int.mul_neg_of_neg_of_pos (show b.1 < 0 by omega) (show (0 : Int) < 2 ^ f * 2 by omega); omega
    have h5 := cancel (2 * ((s.1.natAbs : Int) * 2 ^ f)) s.2 (absb 2 d (by decide) o3.1 o3.2)
    show (s.1.natAbs : Int) * b.2 ≤ b.1 * s.2
    have e6 : (s.1.natAbs : Int) * b.2 = b.1 * (2 * ((s.1.natAbs : Int) * 2 ^ f)) := by
      rw [show b.2 = b.1 * (2 ^ f * 2) by rw [cb]; omega]
      simp only [Int.mul_assoc, Int.mul_left_comm, Int.mul_comm (2 ^ f)]
    rw [e6]
    exact Int.mul_le_mul_of_nonneg_left h5 nb
  · rw [if_neg hn]
    have h5 := cancel (1 * ((s.1.natAbs : Int) * 2 ^ f)) s.2 (absb 1 d (by decide) (by omega) (by omega))
    show (s.1.natAbs : Int) * 2 ^ f ≤ 1 * s.2
    omega
end Z
end Go.Proofs.YtmadhpbdianddaaDoor
