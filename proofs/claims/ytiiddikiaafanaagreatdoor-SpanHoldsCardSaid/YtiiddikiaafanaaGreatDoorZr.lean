import Derived.Test.YtiiddikiaafanaaGreatDoorQf
set_option linter.all false
/-
  Plain mathematics of formats, part one: rounding n / d to a whole number. No program, no memory.
-/
namespace Go.Proofs.YtiiddikiaafanaaGreatDoor
namespace Z
/-- n / d, rounded: 1 near, 2 towards zero, 3 up, else down. -/
def rnd (m : Nat) (n d : Int) : Int :=
  if m = 1 then (if d < 2 * (n % d) ∨ (2 * (n % d) = d ∧ n / d % 2 ≠ 0) then n / d + 1 else n / d)
  else if m = 2 then (if n < 0 ∧ n % d ≠ 0 then n / d + 1 else n / d)
  else if m = 3 then (if n % d ≠ 0 then n / d + 1 else n / d)
  else n / d
theorem rnd_0 (n d : Int) : rnd 0 n d = n / d := rfl
theorem rnd_2 (n d : Int) : rnd 2 n d = if n < 0 ∧ n % d ≠ 0 then n / d + 1 else n / d := rfl
theorem rnd_3 (n d : Int) : rnd 3 n d = if n % d ≠ 0 then n / d + 1 else n / d := rfl
/-- The two candidates. -/
theorem rnd_near (m : Nat) (n d : Int) (hd : 0 < d) : rnd m n d = n / d ∨ (rnd m n d = n / d + 1 ∧ n % d ≠ 0) := by
  have h0 := Int.emod_nonneg n (show d ≠ 0 by omega)
  unfold rnd
  split
  · split
    · right; refine ⟨rfl, ?_⟩; omega
    · left; rfl
  · split
    · split
      · right; refine ⟨rfl, ?_⟩; omega
      · left; rfl
    · split
      · split
        · right; refine ⟨rfl, ?_⟩; omega
        · left; rfl
      · left; rfl
theorem rnd_exact (m : Nat) (k d : Int) (hd : 0 < d) : rnd m (k * d) d = k := by
  have h1 : k * d / d = k := Int.mul_ediv_cancel _ (by omega)
  have h2 : k * d % d = 0 := Int.mul_emod_left _ _
  rcases rnd_near m (k * d) d hd with h | ⟨_, h⟩
  · rw [h, h1]
  · exact absurd h2 h
theorem rnd_scale (m : Nat) (c n d : Int) (hc : 0 < c) (hd : 0 < d) : rnd m (c * n) (c * d) = rnd m n d := by
  have h1 : c * n / (c * d) = n / d := Int.mul_ediv_mul_of_pos _ _ hc
  have h2 : c * n % (c * d) = c * (n % d) := Int.mul_emod_mul_of_pos _ _ hc
  have h0 := Int.emod_nonneg n (show d ≠ 0 by omega)
  have e1 : (c * d < 2 * (c * (n % d))) ↔ (d < 2 * (n % d)) := by
    rw [show 2 * (c * (n % d)) = c * (2 * (n % d)) by rw [Int.mul_left_comm]]; exact Int.mul_lt_mul_left hc
  have e2 : (2 * (c * (n % d)) = c * d) ↔ (2 * (n % d) = d) := by
    rw [show 2 * (c * (n % d)) = c * (2 * (n % d)) by rw [Int.mul_left_comm]]; exact Int.mul_eq_mul_left_iff (by omega)
  have e3 : (c * n < 0) ↔ (n < 0) := by
    rw [show (c * n < 0) ↔ (c * n < c * 0) by rw [Int.mul_zero]]; exact Int.mul_lt_mul_left hc
  have e4 : (c * (n % d) ≠ 0) ↔ (n % d ≠ 0) := by
    rw [Ne, Int.mul_eq_zero]; omega
  unfold rnd
  rw [h1, h2]
  simp only [e1, e2, e3, e4]
theorem rnd_add (m : Nat) (n d t : Int) (hd : 0 < d) (h : m = 0 ∨ m = 3 ∨ (m = 1 ∧ t % 2 = 0) ∨ (m = 2 ∧ (n % d = 0 ∨ (n < 0 ↔ n + t * d < 0)))) : rnd m (n + t * d) d = rnd m n d + t := by
  have h1 : (n + t * d) / d = n / d + t := Int.add_mul_ediv_right _ _ (by omega)
  have h2 : (n + t * d) % d = n % d := Int.add_mul_emod_self_right _ _ _
  unfold rnd
  rw [h1, h2]
  rcases h with rfl | rfl | ⟨rfl, h⟩ | ⟨rfl, h⟩
  · simp
  · simp; split <;> omega
  · have e : (n / d + t) % 2 = n / d % 2 := by omega
    simp only [e, if_true]; split <;> omega
  · rcases h with h | h
    · simp [h]
    · simp only [← h]; simp; split <;> omega
theorem rnd_ge (m : Nat) (n d a : Int) (hd : 0 < d) (h : a * d ≤ n) : a ≤ rnd m n d := by
  have h1 : a ≤ n / d := (Int.le_ediv_iff_mul_le hd).2 h
  rcases rnd_near m n d hd with e | ⟨e, _⟩ <;> omega
theorem rnd_le (m : Nat) (n d b : Int) (hd : 0 < d) (h : n ≤ b * d) : rnd m n d ≤ b := by
  have h1 : n / d ≤ b := by
    have := Int.ediv_le_ediv hd h
    rwa [Int.mul_ediv_cancel _ (by omega)] at this
  rcases rnd_near m n d hd with e | ⟨e, hr⟩
  · omega
  · have : n / d ≠ b := by
      intro hb
      have := Int.mul_ediv_add_emod n d
      rw [hb, Int.mul_comm d b] at this
      have h0 := Int.emod_nonneg n (show d ≠ 0 by omega)
      omega
    omega
/-- The order is kept. -/
theorem rnd_mono1 (m : Nat) (n1 n2 d : Int) (hd : 0 < d) (h : n1 ≤ n2) : rnd m n1 d ≤ rnd m n2 d := by
  have hq : n1 / d ≤ n2 / d := Int.ediv_le_ediv hd h
  by_cases he : n1 / d = n2 / d
  · have a1 := Int.mul_ediv_add_emod n1 d
    have a2 := Int.mul_ediv_add_emod n2 d
    have r1 := Int.emod_nonneg n1 (show d ≠ 0 by omega)
    rw [he] at a1
    unfold rnd
    rw [he]
    have b1 : n1 % d ≤ n2 % d := by omega
    split
    · repeat' split
      all_goals omega
    · split
      · by_cases hr : n1 % d = 0
        · split <;> split <;> omega
        · by_cases hn : n2 < 0
          · split <;> split <;> omega
          · have hz : 0 ≤ n2 / d := Int.ediv_nonneg (by omega) (by omega)
            by_cases hn1 : n1 < 0
            · have : n1 / d < 0 := Int.ediv_neg_of_neg_of_pos hn1 hd
              omega
            · split <;> split <;> omega
      · split
        · split <;> split <;> omega
        · omega
  · rcases rnd_near m n1 d hd with e1 | ⟨e1, _⟩ <;> rcases rnd_near m n2 d hd with e2 | ⟨e2, _⟩ <;> omega
theorem rnd_mono (m : Nat) (n1 d1 n2 d2 : Int) (h1 : 0 < d1) (h2 : 0 < d2) (h : n1 * d2 ≤ n2 * d1) : rnd m n1 d1 ≤ rnd m n2 d2 := by
  rw [← rnd_scale m d2 n1 d1 h2 h1, ← rnd_scale m d1 n2 d2 h1 h2, Int.mul_comm d2 d1]
  exact rnd_mono1 m _ _ _ (Int.mul_pos h1 h2) (by rw [Int.mul_comm d2 n1, Int.mul_comm d1 n2]; exact h)
/-- By sizes: s / d rounded by the size, the sign put to it. -/
theorem rnd_neg_parts (s d : Int) (hd : 0 < d) : (-s) / d = (if s % d = 0 then -(s / d) else -(s / d) - 1) ∧ (-s) % d = (if s % d = 0 then 0 else d - s % d) := by
  have h := Int.mul_ediv_add_emod s d
  have h0 := Int.emod_nonneg s (show d ≠ 0 by omega)
  have h1 := Int.emod_lt_of_pos s hd
  have key : (-s) / d = (if s % d = 0 then -(s / d) else -(s / d) - 1) ∧ (-s) % d = (if s % d = 0 then 0 else d - s % d) := by
    apply (Int.ediv_emod_unique hd).2
    split
    · rw [Int.mul_neg]; omega
    · rw [Int.mul_sub, Int.mul_neg]; omega
  exact key
theorem rnd_neg (m : Nat) (s d : Int) (hd : 0 < d) (hs : 0 < s) : rnd m (-s) d = -(if m = 1 then (if d < 2 * (s % d) ∨ (2 * (s % d) = d ∧ s / d % 2 = 1) then s / d + 1 else s / d) else if m = 2 then s / d else if m = 3 then s / d else if 0 < s % d then s / d + 1 else s / d) := by
  obtain ⟨e1, e2⟩ := rnd_neg_parts s d hd
  have h0 := Int.emod_nonneg s (show d ≠ 0 by omega)
  have h1 := Int.emod_lt_of_pos s hd
  have hn : -s < 0 := by omega
  unfold rnd
  rw [e1, e2]
  by_cases hz : s % d = 0
  · simp only [hz, if_true, hn, true_and]
    repeat' split
    all_goals omega
  · simp only [hz, if_false, hn, true_and]
    repeat' split
    all_goals omega
theorem rnd_pos (m : Nat) (s d : Int) (hd : 0 < d) (hs : 0 ≤ s) : rnd m s d = (if m = 1 then (if d < 2 * (s % d) ∨ (2 * (s % d) = d ∧ s / d % 2 = 1) then s / d + 1 else s / d) else if m = 2 then s / d else if m = 3 then (if s % d ≠ 0 then s / d + 1 else s / d) else s / d) := by
  unfold rnd
  have hn : ¬ s < 0 := by omega
  simp only [hn, false_and, if_false]
  repeat' split
  all_goals omega
end Z
end Go.Proofs.YtiiddikiaafanaaGreatDoor
