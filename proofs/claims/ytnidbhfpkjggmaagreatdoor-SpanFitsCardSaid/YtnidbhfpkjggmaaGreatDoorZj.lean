import Derived.Test.YtnidbhfpkjggmaaGreatDoorVh
set_option linter.all false
/-
  Plain mathematics of formats, part three: codes there and back, whole turns.
-/
namespace Go.Proofs.YtnidbhfpkjggmaaGreatDoor
open Go.RowKit
namespace Z
theorem mk_num {n d : Int} (hn : -1073741824 ≤ n ∧ n ≤ 1073741824) (hd : 1 ≤ d ∧ d ≤ 1073741824) : Q.isq (Q.mk n d).1 (Q.mk n d).2 = true := by
  rcases Q.mk_isq n d with h | h
  · exfalso
    unfold Q.mk Q.low at h
    have hg := Q.gcd_pos' n d (by omega)
    have h1 := Nat.div_le_self n.natAbs (n.natAbs.gcd d.natAbs)
    have h2 := Nat.div_le_self d.natAbs (n.natAbs.gcd d.natAbs)
    have h3 : 0 < d.natAbs / n.natAbs.gcd d.natAbs := Nat.div_pos (Nat.le_of_dvd (by omega) (Nat.gcd_dvd_right _ _)) hg
    rw [if_neg (by omega), if_neg (by omega)] at h
    have := congrArg Prod.snd h
    simp only at this
    omega
  · exact h
/-- A value's own fraction. -/
structure Val (F : Nat) (k n d : Int) : Prop where
  q : Q.isq n d = true
  e : Q.mk k (2 ^ F) = (n, d)
  c : n * 2 ^ F = k * d
  t : n * (2 ^ F / d) = k
end Z
end Go.Proofs.YtnidbhfpkjggmaaGreatDoor

/-
  Plain mathematics of formats, part four: what is fitted is kept, the order is kept, how far off.
-/
namespace Go.Proofs.YtnidbhfpkjggmaaGreatDoor
open Go.RowKit
namespace Z
theorem cmp_le {a b : Int × Int} (ha : Q.isq a.1 a.2 = true) (hb : Q.isq b.1 b.2 = true) : ¬ 0 < Q.cmp a b ↔ a.1 * b.2 ≤ b.1 * a.2 := by
  unfold Q.cmp Q.cmpi
  rw [if_pos ((Q.both_iff _ _).2 ⟨ha, hb⟩)]
  constructor
  · intro h; split at h <;> (try split at h) <;> omega
  · intro h; split <;> (try split) <;> omega
theorem den_pos' {p : Int × Int} (h : Q.isq p.1 p.2 = true) : 0 < p.2 := Q.den_pos h
theorem mk_le {A B D : Int} (hD : 0 < D) (ha : Q.isq (Q.mk A D).1 (Q.mk A D).2 = true) (hb : Q.isq (Q.mk B D).1 (Q.mk B D).2 = true) (h : A ≤ B) : (Q.mk A D).1 * (Q.mk B D).2 ≤ (Q.mk B D).1 * (Q.mk A D).2 := by
  have c1 := Q.mk_cross (n := A) (d := D) (by omega) ha
  have c2 := Q.mk_cross (n := B) (d := D) (by omega) hb
  have p1 := den_pos' ha
  have p2 := den_pos' hb
  generalize (Q.mk A D).1 = a1 at *
  generalize (Q.mk A D).2 = a2 at *
  generalize (Q.mk B D).1 = b1 at *
  generalize (Q.mk B D).2 = b2 at *
  apply Int.le_of_mul_le_mul_right _ hD
  have e1 : a1 * b2 * D = A * (a2 * b2) := by rw [Int.mul_right_comm, c1, Int.mul_assoc]
  have e2 : b1 * a2 * D = B * (a2 * b2) := by rw [Int.mul_right_comm, c2, Int.mul_assoc, Int.mul_comm b2]
  rw [e1, e2]
  exact Int.mul_le_mul_of_nonneg_right h (Int.le_of_lt (Int.mul_pos p1 p2))
/-- Clamped. -/
structure Cl (o : Nat) (lo hi W D : Int) (neg : Bool) (v : Int × Int) : Prop where
  e : v = if -lo ≤ W ∧ W ≤ hi then Q.mk W D else if o = 2 then (0, 0) else if neg = true then Q.mk (-lo) D else Q.mk hi D
  up : hi < W → neg = false
  dn : W < -lo → neg = true
theorem expo_le {I F : Nat} {n d y : Int} (hy : -(F : Int) ≤ y) (hb : below n d (I + y) = true) : expo I F n d ≤ y := by
  obtain ⟨s1, s2, s3, s4⟩ := flx_spec I n d (2 * F + 1) (-(F : Int))
  unfold expo
  apply Classical.byContradiction
  intro hc
  rw [s4 y hy (by omega)] at hb
  cases hb
structure FW (m I F : Nat) (n d X W : Int) : Prop where
  lo : -(F : Int) ≤ X
  hi : X ≤ F + 1
  bd : -(2 ^ (I + (X + F).toNat)) ≤ W ∧ W ≤ 2 ^ (I + (X + F).toNat)
  big : -(F : Int) < X → (0 ≤ n → 2 ^ (I + (X + F).toNat - 1) ≤ W) ∧ (n < 0 → W ≤ -(2 ^ (I + (X + F).toNat - 1)))
  sg : (0 ≤ n → 0 ≤ W) ∧ (n ≤ 0 → W ≤ 0 ∨ X = F + 1)
end Z
end Go.Proofs.YtnidbhfpkjggmaaGreatDoor
