/-
  Plain mathematics of numbers, part three: the number that a Q is; what the laws on rounding ask.
-/
import Derived.Test.YtpdklolfkigefaaDoorQb
set_option linter.all false
namespace Go.Proofs.YtpdklolfkigefaaDoor
namespace Q
/-- The number that a Q is. -/
def val (p : Int × Int) : Rat := Rat.divInt p.1 p.2
theorem val_nd {p : Int × Int} (h : isq p.1 p.2 = true) : (val p).num = p.1 ∧ ((val p).den : Int) = p.2 := by
  obtain ⟨h1, h2, h3, h4, h5⟩ := (isq_iff _ _).1 h
  unfold val
  have hg : p.2.gcd p.1 = 1 := by unfold Int.gcd; rw [Nat.gcd_comm]; exact h5
  constructor
  · rw [Rat.num_divInt, hg, Int.sign_eq_one_of_pos (by omega)]; simp
  · rw [Rat.den_divInt, if_neg (by omega), hg]; simp; omega
theorem val_inj {p q : Int × Int} (hp : isq p.1 p.2 = true) (hq : isq q.1 q.2 = true) (h : val p = val q) : p = q := by
  have a := val_nd hp
  have b := val_nd hq
  rw [h] at a
  exact Prod.ext (a.1.symm.trans b.1) (a.2.symm.trans b.2)
theorem val_mk {n d : Int} (hd : d ≠ 0) (h : isq (mk n d).1 (mk n d).2 = true) : val (mk n d) = Rat.divInt n d := by
  have key : ∀ n d : Int, 0 < d → isq (mk n d).1 (mk n d).2 = true → val (mk n d) = Rat.divInt n d := fun n d hd h => by
    have hg := gcd_pos' n d (by omega)
    have g1 : ((n.natAbs.gcd d.natAbs : Nat) : Int) ∣ n := Int.ofNat_dvd_left.2 (Nat.gcd_dvd_left _ _)
    have g2 : ((n.natAbs.gcd d.natAbs : Nat) : Int) ∣ d := Int.ofNat_dvd_left.2 (Nat.gcd_dvd_right _ _)
    have e : mk n d = (n.tdiv ((n.natAbs.gcd d.natAbs : Nat) : Int), d.tdiv ((n.natAbs.gcd d.natAbs : Nat) : Int)) := by
      cases hi : isq (n.tdiv ((n.natAbs.gcd d.natAbs : Nat) : Int)) (d.tdiv ((n.natAbs.gcd d.natAbs : Nat) : Int))
      · rw [(mk_pos n d hd _ rfl).2 hi] at h; exact absurd h (by decide)
      · exact (mk_pos n d hd _ rfl).1 hi
    have hdp := ((isq_iff _ _).1 h).2.2.1
    rw [e] at hdp ⊢
    generalize ((n.natAbs.gcd d.natAbs : Nat) : Int) = g at *
    unfold val
    rw [Rat.divInt_eq_divInt_iff (by simp only at hdp ⊢; omega) (by omega)]
    have e1 := Int.mul_tdiv_cancel' g1
    have e2 := Int.mul_tdiv_cancel' g2
    simp only
    generalize n.tdiv g = x at *
    generalize d.tdiv g = y at *
    subst e1
    rw [← e2]
    grind
  by_cases hp : 0 < d
  · exact key n d hp h
  · rw [← mk_neg n d hd] at h ⊢
    rw [key _ _ (by omega) h, Rat.divInt_eq_divInt_iff (by omega) hd]
    grind
theorem isq_none : isq 0 0 = false := by decide
theorem both_iff (a b : Int × Int) : both a b = true ↔ (isq a.1 a.2 = true ∧ isq b.1 b.2 = true) := by unfold both; rw [Bool.and_eq_true]
theorem den_pos {p : Int × Int} (h : isq p.1 p.2 = true) : 0 < p.2 := by have := (isq_iff _ _).1 h; omega
theorem none_of {a b c : Int × Int} (h : isq (if both a b = true then c else (0, 0)).1 (if both a b = true then c else (0, 0)).2 = true) : both a b = true := by
  cases hb : both a b
  · rw [hb, if_neg (by decide)] at h; exact absurd h (by decide)
  · rfl
theorem val_add {a b : Int × Int} (h : isq (add a b).1 (add a b).2 = true) : both a b = true ∧ val (add a b) = val a + val b := by
  have hb : both a b = true := none_of h
  refine ⟨hb, ?_⟩
  have h12 := (both_iff _ _).1 hb
  have p1 := den_pos h12.1
  have p2 := den_pos h12.2
  unfold add at h ⊢
  rw [if_pos hb] at h ⊢
  rw [val_mk (Int.ne_of_gt (Int.mul_pos p1 p2)) h]
  unfold val
  rw [Rat.divInt_add_divInt _ _ (by omega) (by omega)]
theorem val_sub {a b : Int × Int} (h : isq (sub a b).1 (sub a b).2 = true) : both a b = true ∧ val (sub a b) = val a - val b := by
  have hb : both a b = true := none_of h
  refine ⟨hb, ?_⟩
  have h12 := (both_iff _ _).1 hb
  have p1 := den_pos h12.1
  have p2 := den_pos h12.2
  unfold sub at h ⊢
  rw [if_pos hb] at h ⊢
  rw [val_mk (Int.ne_of_gt (Int.mul_pos p1 p2)) h]
  unfold val
  rw [Rat.divInt_sub_divInt _ _ (by omega) (by omega)]
theorem val_mul {a b : Int × Int} (h : isq (mul a b).1 (mul a b).2 = true) : both a b = true ∧ val (mul a b) = val a * val b := by
  have hb : both a b = true := none_of h
  refine ⟨hb, ?_⟩
  have h12 := (both_iff _ _).1 hb
  have p1 := den_pos h12.1
  have p2 := den_pos h12.2
  unfold mul at h ⊢
  rw [if_pos hb] at h ⊢
  rw [val_mk (Int.ne_of_gt (Int.mul_pos p1 p2)) h]
  unfold val
  rw [Rat.divInt_mul_divInt]
theorem val_zero {b : Int × Int} (hb : isq b.1 b.2 = true) : val b = 0 ↔ b.1 = 0 := by
  have := val_nd hb
  rw [← this.1]
  exact Rat.num_eq_zero.symm
theorem val_div {a b : Int × Int} (h : isq (div a b).1 (div a b).2 = true) : both a b = true ∧ b.1 ≠ 0 ∧ val (div a b) = val a / val b := by
  have hb : both a b = true := none_of h
  have h12 := (both_iff _ _).1 hb
  have p1 := den_pos h12.1
  have p2 := den_pos h12.2
  unfold div at h ⊢
  rw [if_pos hb] at h ⊢
  have hn : b.1 ≠ 0 := by
    intro h0
    rw [h0, Int.mul_zero, mk_zero] at h; exact absurd h (by decide)
  refine ⟨hb, hn, ?_⟩
  rw [val_mk (Int.mul_ne_zero (by omega) hn) h]
  unfold val
  rw [Rat.div_def, Rat.inv_divInt, Rat.divInt_mul_divInt]
theorem val_lt {a b : Int × Int} (h : both a b = true) : val a < val b ↔ a.1 * b.2 < b.1 * a.2 := by
  have h12 := (both_iff _ _).1 h
  have na := val_nd h12.1
  have nb := val_nd h12.2
  rw [Rat.lt_iff, na.1, na.2, nb.1, nb.2]
theorem val_cmp {a b : Int × Int} (h : both a b = true) : cmp a b = if val a < val b then -1 else if val b < val a then 1 else 0 := by
  have h' : both b a = true := by rw [both_flip]; exact h
  unfold cmp cmpi
  rw [if_pos h]
  simp only [val_lt h, val_lt h']
theorem add_comm' (a b : Int × Int) : add a b = add b a := by
  unfold add; rw [both_flip a b]; split
  · congr 1 <;> grind
  · rfl
theorem mul_comm' (a b : Int × Int) : mul a b = mul b a := by
  unfold mul; rw [both_flip a b]; split
  · congr 1 <;> grind
  · rfl
theorem mk_id {a : Int × Int} (h : isq a.1 a.2 = true) : mk a.1 a.2 = a := by
  have h0 := (isq_iff _ _).1 h
  have hp := mk_pos a.1 a.2 (by omega) 1 (by rw [h0.2.2.2.2]; rfl)
  rw [Int.tdiv_one, Int.tdiv_one] at hp
  exact hp.1 h
theorem mk_one {n : Int} (h : -1073741824 ≤ n ∧ n ≤ 1073741824) : mk n 1 = (n, 1) ∧ isq n 1 = true := by
  have hi : isq n 1 = true := (isq_iff _ _).2 ⟨h.1, h.2, by decide, by decide, by simp⟩
  exact ⟨mk_id (a := (n, 1)) hi, hi⟩
theorem floor_val {a : Int × Int} (h : isq a.1 a.2 = true) : floor a = (a.1 / a.2, 1) ∧ isq (a.1 / a.2) 1 = true := by
  have h0 := (isq_iff _ _).1 h
  unfold floor
  rw [if_pos h]
  exact mk_one (div_bd _ _ _ (by omega) (by omega))
theorem frac_val {a : Int × Int} (h : isq a.1 a.2 = true) : frac a = (a.1 % a.2, a.2) ∧ isq (a.1 % a.2) a.2 = true := by
  have h0 := (isq_iff _ _).1 h
  have hf := floor_val h
  have m1 := Int.emod_nonneg a.1 (show a.2 ≠ 0 by omega)
  have m2 := Int.emod_lt_of_pos a.1 (show 0 < a.2 by omega)
  have m3 := Int.mul_ediv_add_emod a.1 a.2
  have hi : isq (a.1 % a.2) a.2 = true := by
    rw [isq_iff]
    refine ⟨by omega, by omega, by omega, by omega, ?_⟩
    have e : a.1 % a.2 = a.1 - a.1 / a.2 * a.2 := by rw [Int.mul_comm]; omega
    have hg : Int.gcd (a.1 % a.2) a.2 = Int.gcd a.1 a.2 := by rw [e]; exact Int.gcd_sub_mul_right_left _ _ _
    unfold Int.gcd at hg
    rw [hg]; exact h0.2.2.2.2
  refine ⟨?_, hi⟩
  unfold frac sub both
  rw [hf.1, h, hf.2, Bool.and_self, if_pos rfl]
  have e1 : a.1 * 1 - a.1 / a.2 * a.2 = a.1 % a.2 := by rw [Int.mul_one, Int.mul_comm]; omega
  simp only
  rw [e1, Int.mul_one]
  exact mk_id (a := (a.1 % a.2, a.2)) hi
/-- What the law on rounding asks of Floor and Frac. -/
theorem frac_law {a : Int × Int} (h : isq a.1 a.2 = true) : add (floor a) (frac a) = a ∧ ¬ cmp (frac a) (0, 1) < 0 ∧ ¬ 0 ≤ cmp (frac a) (1, 1) := by
  have h0 := (isq_iff _ _).1 h
  have hf := floor_val h
  have hr := frac_val h
  have m1 := Int.emod_nonneg a.1 (show a.2 ≠ 0 by omega)
  have m2 := Int.emod_lt_of_pos a.1 (show 0 < a.2 by omega)
  have m3 := Int.mul_ediv_add_emod a.1 a.2
  have d01 : isq 0 1 = true := by decide
  have d11 : isq 1 1 = true := by decide
  rw [hf.1, hr.1]
  refine ⟨?_, ?_, ?_⟩
  · unfold add both
    simp only [hf.2, hr.2, Bool.and_self, if_true]
    have e1 : a.1 / a.2 * a.2 + a.1 % a.2 * 1 = a.1 := by rw [Int.mul_one, Int.mul_comm]; omega
    rw [e1, Int.one_mul]
    exact mk_id h
  · unfold cmp both cmpi
    simp only [hr.2, d01, Bool.and_self, if_true]
    rw [if_neg (by omega)]; split <;> omega
  · unfold cmp both cmpi
    simp only [hr.2, d11, Bool.and_self, if_true]
    rw [if_pos (by omega)]; omega
theorem dr_sign (p d : Int) : (0 < d → 0 ≤ dr p d ∧ dr p d < d) ∧ (d < 0 → d < dr p d ∧ dr p d ≤ 0) := by
  have h2 := fun hd => tmod_lt p d hd
  constructor
  · intro hd
    have := (dqr p d hd).2
    rw [this]
    exact ⟨Int.emod_nonneg _ (by omega), Int.emod_lt_of_pos _ hd⟩
  · intro hd
    have h3 := h2 (by omega)
    unfold dr turn
    by_cases h0 : p.tmod d = 0
    · simp [h0]; omega
    · by_cases hn : p.tmod d < 0
      · simp [hn, hd]; omega
      · simp [h0, hn, hd]; omega
theorem mk_cross {n d : Int} (hd : d ≠ 0) (h : isq (mk n d).1 (mk n d).2 = true) : (mk n d).1 * d = n * (mk n d).2 := by
  have hv := val_mk hd h
  have hp := den_pos h
  unfold val at hv
  exact (Rat.divInt_eq_divInt_iff (by omega) hd).1 hv
theorem abs_val {a : Int × Int} (h : isq a.1 a.2 = true) : abs a = ((a.1.natAbs : Int), a.2) ∧ isq (a.1.natAbs : Int) a.2 = true := by
  constructor
  · unfold abs; rw [if_pos h]; split
    · exact Prod.ext (by simp only; omega) rfl
    · exact Prod.ext (by simp only; omega) rfl
  · have := (isq_iff _ _).1 h
    rw [isq_iff, Int.natAbs_natCast]
    omega
theorem mod_law {a b : Int × Int} (hm : isq (mod a b).1 (mod a b).2 = true) (hb : isq b.1 b.2 = true) :
    ¬ ((mod a b).1 < 0 ∧ 0 < b.1) ∧ ¬ (0 < (mod a b).1 ∧ b.1 < 0) ∧ ¬ 0 ≤ cmp (abs (mod a b)) (abs b) := by
  have hc : (both a b && b.1 != 0) = true := by
    cases hc : (both a b && b.1 != 0)
    · unfold mod at hm; rw [hc, if_neg (by decide)] at hm; exact absurd hm (by decide)
    · rfl
  have e : mod a b = mk (dr (a.1 * b.2) (b.1 * a.2)) (a.2 * b.2) := by unfold mod; rw [if_pos hc]
  rw [Bool.and_eq_true, both_iff, bne_iff_ne] at hc
  obtain ⟨⟨ha, _⟩, hbn⟩ := hc
  have pa := den_pos ha
  have pb := den_pos hb
  have pab : 0 < a.2 * b.2 := Int.mul_pos pa pb
  have hm' := hm
  rw [e] at hm'
  have hx := mk_cross (Int.ne_of_gt pab) hm'
  rw [← e] at hx
  have pm := den_pos hm
  have hs := dr_sign (a.1 * b.2) (b.1 * a.2)
  have hab := (abs_val hm)
  have hbb := (abs_val hb)
  rw [hab.1, hbb.1]
  generalize mod a b = m at *
  generalize dr (a.1 * b.2) (b.1 * a.2) = R at *
  refine ⟨?_, ?_, ?_⟩
  · rintro ⟨h1, h2⟩
    have hq : 0 < b.1 * a.2 := Int.mul_pos h2 pa
    have h3 := Int.mul_nonneg (hs.1 hq).1 (show 0 ≤ m.2 by omega)
    have h4 := Int.mul_neg_of_neg_of_pos h1 pab
    omega
  · rintro ⟨h1, h2⟩
    have hq : b.1 * a.2 < 0 := Int.mul_neg_of_neg_of_pos h2 pa
    have h3 := Int.mul_nonpos_of_nonpos_of_nonneg (hs.2 hq).2 (show 0 ≤ m.2 by omega)
    have h4 := Int.mul_pos h1 pab
    omega
  · have hR : R.natAbs < b.1.natAbs * a.2.natAbs := by
      rw [← Int.natAbs_mul]
      by_cases h2 : 0 < b.1
      · have := hs.1 (Int.mul_pos h2 pa); omega
      · have := hs.2 (Int.mul_neg_of_neg_of_pos (by omega) pa); omega
    have hN : m.1.natAbs * (a.2.natAbs * b.2.natAbs) = R.natAbs * m.2.natAbs := by
      rw [← Int.natAbs_mul, ← Int.natAbs_mul, ← Int.natAbs_mul, hx]
    have hlt : m.1.natAbs * b.2.natAbs < b.1.natAbs * m.2.natAbs := by
      apply Nat.lt_of_mul_lt_mul_right (a := a.2.natAbs)
      have h5 : R.natAbs * m.2.natAbs < b.1.natAbs * a.2.natAbs * m.2.natAbs := Nat.mul_lt_mul_of_pos_right hR (by omega)
      rw [← hN] at h5
      have e1 : m.1.natAbs * b.2.natAbs * a.2.natAbs = m.1.natAbs * (a.2.natAbs * b.2.natAbs) := by rw [Nat.mul_assoc, Nat.mul_comm b.2.natAbs]
      have e2 : b.1.natAbs * m.2.natAbs * a.2.natAbs = b.1.natAbs * a.2.natAbs * m.2.natAbs := by rw [Nat.mul_assoc, Nat.mul_assoc, Nat.mul_comm m.2.natAbs]
      omega
    have hlt' : (m.1.natAbs : Int) * b.2 < (b.1.natAbs : Int) * m.2 := by
      have e1 : b.2 = (b.2.natAbs : Int) := by omega
      have e2 : m.2 = (m.2.natAbs : Int) := by omega
      rw [e1, e2, ← Int.natCast_mul, ← Int.natCast_mul]; exact Int.ofNat_lt.2 hlt
    unfold cmp both cmpi
    simp only [hab.2, hbb.2, Bool.and_self, if_true]
    rw [if_pos hlt']; omega
theorem cmp_none_left {a b : Int × Int} (h : isq a.1 a.2 = false) (hb : isq b.1 b.2 = true) : cmp a b = -1 := by
  unfold cmp both rank cmpi; rw [h, hb]; rfl
theorem round_law {a : Int × Int} (h : isq a.1 a.2 = true) : cmp (abs (sub (round a) a)) (1, 2) ≤ 0 := by
  have d12 : isq 1 2 = true := by decide
  cases hs : isq (sub (round a) a).1 (sub (round a) a).2
  · have : abs (sub (round a) a) = (0, 0) := by unfold abs; rw [hs]; rfl
    rw [this, cmp_none_left (by decide) d12]; omega
  · have hb := (val_sub hs).1
    have hru := (both_iff _ _).1 hb
    have pa := den_pos h
    have er : round a = mk (up a.1 a.2) 1 := by unfold round; rw [if_pos h]
    have hu : mk (up a.1 a.2) 1 = (up a.1 a.2, 1) := by
      have h1 := hru.1
      rw [er] at h1
      have hc := mk_cross (by decide) h1
      have hv := val_nd h1
      have h2 : (mk (up a.1 a.2) 1).2 = 1 := by
        have := low_cop (up a.1 a.2).natAbs 1 (by decide)
        have key := (mk_pos (up a.1 a.2) 1 (by decide) 1 (by simp))
        rw [Int.tdiv_one, Int.tdiv_one] at key
        cases hi : isq (up a.1 a.2) 1
        · rw [key.2 hi] at h1; exact absurd h1 (by decide)
        · rw [key.1 hi]
      exact Prod.ext (by simp only; rw [Int.mul_one, h2, Int.mul_one] at hc; exact hc) h2
    have hsub : sub (round a) a = mk (up a.1 a.2 * a.2 - a.1 * 1) (1 * a.2) := by
      unfold sub; rw [if_pos hb, er, hu]
    have hx : (sub (round a) a).1 * a.2 = (up a.1 a.2 * a.2 - a.1) * (sub (round a) a).2 := by
      have h1 := hs
      rw [hsub] at h1
      have := mk_cross (by rw [Int.one_mul]; omega) h1
      rw [← hsub, Int.one_mul, Int.mul_one] at this
      exact this
    have hbd : 2 * (up a.1 a.2 * a.2 - a.1).natAbs ≤ a.2.natAbs := by
      have m1 := Int.emod_nonneg a.1 (show a.2 ≠ 0 by omega)
      have m2 := Int.emod_lt_of_pos a.1 (show 0 < a.2 by omega)
      have m3 := Int.mul_ediv_add_emod a.1 a.2
      rw [Int.mul_comm] at m3
      unfold up
      split
      · rw [Int.add_mul, Int.one_mul]; omega
      · omega
    have hab := abs_val hs
    have ps := den_pos hs
    rw [hab.1]
    generalize sub (round a) a = s at *
    generalize up a.1 a.2 * a.2 - a.1 = D at *
    have hN : s.1.natAbs * a.2.natAbs = D.natAbs * s.2.natAbs := by rw [← Int.natAbs_mul, ← Int.natAbs_mul, hx]
    have hle : 2 * s.1.natAbs ≤ s.2.natAbs := by
      refine Nat.le_of_mul_le_mul_right (c := a.2.natAbs) ?_ (by omega)
      rw [Nat.mul_assoc, hN, ← Nat.mul_assoc, Nat.mul_comm s.2.natAbs]
      exact Nat.mul_le_mul_right _ hbd
    unfold cmp both cmpi
    simp only [hab.2, d12, Bool.and_self, if_true]
    split
    · omega
    · split <;> omega
end Q
end Go.Proofs.YtpdklolfkigefaaDoor
