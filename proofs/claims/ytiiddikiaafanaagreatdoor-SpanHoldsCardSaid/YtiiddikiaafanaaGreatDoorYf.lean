import Derived.Test.YtiiddikiaafanaaGreatDoorYd
set_option linter.all false
/-
  Formats as plain functions: rounding and shifting by the specification.
-/
namespace Go.Proofs.YtiiddikiaafanaaGreatDoor
open Go.Pv Go.RowKit
namespace Y
theorem two_eq (a : Int) (h : 0 ≤ a ∧ a ≤ 62) (k : Int → Option DV) : s2_Two a k = k (2 ^ a.toNat) := by
  have hp := Z.p2_bd a.toNat (by omega)
  unfold s2_Two B_s2_Two
  rw [decide_eq_false (by omega), cf, mi (by omega), Int.one_mul, iw (by omega)]
theorem two40_eq (k : Int → Option DV) : s2_Two 40 k = k 1099511627776 := two_eq 40 (by decide) k
theorem fdiv_eq {p d : Int} (hp : -4611686018427387904 ≤ p ∧ p ≤ 4611686018427387904) (hd : 1 ≤ d ∧ d ≤ 4611686018427387904) (k : Int → Option DV) : s1_FloorDiv p d k = k (p / d) := by
  unfold s1_FloorDiv
  rw [decide_eq_true ⟨hp, hd⟩, ct]
theorem odd_eq (w : Int) : (Int.tmod w 2 != 0) = decide (w % 2 ≠ 0) := by
  have h := Z.tmod_two w
  by_cases h0 : w % 2 = 0
  · rw [h.2 h0]; simp [h0]
  · have : ¬ w.tmod 2 = 0 := fun hc => h0 (h.1 hc)
    simp [h0, this]
theorem rrA_eq {m : Nat} (hm : m ≤ 3) {w0 re d : Int} (hw : -2305843009213693952 ≤ w0 ∧ w0 ≤ 2305843009213693952) (hd : 1 ≤ d ∧ d ≤ 2305843009213693952) (hr : 0 ≤ re ∧ re < d) (k : Int → Option DV) :
    s2_rounded (rnmR m) w0 0 1 re d k = k (Z.rnd m (w0 * d + re) d) := by
  unfold s2_rounded B_s2_rounded
  rw [Z.rnd_split m (by omega) hr]
  have y1 : IntKind.wrap .i64 (w0 + 1) = w0 + 1 := iw (by omega)
  have y2 : IntKind.wrap .i64 (d - re) = d - re := iw (by omega)
  have g0 : decide ((0 : Int) > 0) = false := by decide
  have g1 : ((1 : Int) == 1) = true := by decide
  simp only [y1, y2, g0, g1, Bool.not_false, ct, odd_eq]
  have hcase : m = 0 ∨ m = 1 ∨ m = 2 ∨ m = 3 := by omega
  rcases hcase with rfl | rfl | rfl | rfl
  · simp [-cond_true, -cond_false, ct, cf, rnmR, tl]
  · by_cases h1 : re > d - re
    · have : d < 2 * re := by omega
      simp [-cond_true, -cond_false, ct, cf, rnmR, tl, h1, this]
    · have h1' : ¬ d < 2 * re := by omega
      by_cases h2 : re = d - re
      · have h2' : 2 * re = d := by omega
        have h2b : (re == d - re) = true := by rw [beq_iff_eq]; exact h2
        by_cases h3 : w0 % 2 = 0
        · simp [-cond_true, -cond_false, ct, cf, rnmR, tl, h1, h1', h2b, h2', h3]
        · simp [-cond_true, -cond_false, ct, cf, rnmR, tl, h1, h1', h2b, h2', h3]
      · have h2' : ¬ 2 * re = d := by omega
        have h2b : (re == d - re) = false := by rw [beq_eq_false_iff_ne]; exact h2
        simp [-cond_true, -cond_false, ct, cf, rnmR, tl, h1, h1', h2b, h2']
  · by_cases h1 : w0 < 0
    · by_cases h2 : re > 0
      · have h3 : ¬ re = 0 := by omega
        simp [-cond_true, -cond_false, ct, cf, rnmR, tl, h1, h2, h3]
      · have h3 : re = 0 := by omega
        simp [-cond_true, -cond_false, ct, cf, rnmR, tl, h1, h3]
    · simp [-cond_true, -cond_false, ct, cf, rnmR, tl, h1]
  · by_cases h2 : re > 0
    · have h3 : ¬ re = 0 := by omega
      simp [-cond_true, -cond_false, ct, cf, rnmR, tl, h2, h3]
    · have h3 : re = 0 := by omega
      simp [-cond_true, -cond_false, ct, cf, rnmR, tl, h3]
theorem rrB_eq {m : Nat} (hm : m ≤ 3) {w0 lo un re d : Int} (hw : -2305843009213693952 ≤ w0 ∧ w0 ≤ 2305843009213693952) (hd : 1 ≤ d ∧ d ≤ 2305843009213693952) (hr : 0 ≤ re ∧ re < d) (hu : 2 ≤ un ∧ un ≤ 1073741824 ∧ un % 2 = 0) (hl : 0 ≤ lo ∧ lo < un) (k : Int → Option DV) :
    s2_rounded (rnmR m) w0 lo un re d k = k (Z.rnd m ((w0 * un + lo) * d + re) (d * un)) := by
  unfold s2_rounded B_s2_rounded
  rw [Z.rnd_split2 m (by omega) (by omega) hr hl]
  obtain ⟨q1, q2, q3, q4, q5⟩ := Z.low_cases (u := un) (l := lo) (d := d) (r := re) (by omega) hr
  have hbd := Z.low_bd (u := un) (by omega) hr hl
  generalize lo * d + re = L at *
  generalize un * d = U at *
  have y1 : IntKind.wrap .i64 (w0 + 1) = w0 + 1 := iw (by omega)
  have y3 : IntKind.wrap .i64 (Int.tdiv un 2) = un / 2 := by rw [Int.tdiv_eq_ediv_of_nonneg (by omega), iw (by omega)]
  have g1 : (un == 1) = false := by rw [beq_eq_false_iff_ne]; omega
  simp only [y1, y3, g1, cf, odd_eq]
  have hcase : m = 0 ∨ m = 1 ∨ m = 2 ∨ m = 3 := by omega
  rcases hcase with rfl | rfl | rfl | rfl
  · by_cases hlo : lo > 0 <;> simp [-cond_true, -cond_false, ct, cf, rnmR, tl, hlo]
  · rw [if_pos rfl]
    by_cases h1 : lo > un / 2
    · have := q1 (by omega)
      have hlo : lo > 0 := by omega
      rw [if_pos (by omega)]
      by_cases h2 : (lo == un / 2) = true <;> simp [-cond_true, -cond_false, ct, cf, rnmR, tl, h1, hlo, h2]
    · by_cases h2 : lo = un / 2
      · have g2 := q2 (by omega)
        have hlo : lo > 0 := by omega
        have h2b : (lo == un / 2) = true := by rw [beq_iff_eq]; exact h2
        by_cases h3 : re > 0
        · rw [if_pos (by omega)]
          simp [-cond_true, -cond_false, ct, cf, rnmR, tl, h1, hlo, h2b, h3]
        · have h3' : re = 0 := by omega
          by_cases h4 : w0 % 2 = 0
          · rw [if_neg (by omega)]
            simp [-cond_true, -cond_false, ct, cf, rnmR, tl, h1, hlo, h2b, h3', h4]
          · rw [if_pos (by omega)]
            simp [-cond_true, -cond_false, ct, cf, rnmR, tl, h1, hlo, h2b, h3', h4]
      · have g2 := q3 (by omega)
        have h2b : (lo == un / 2) = false := by rw [beq_eq_false_iff_ne]; exact h2
        rw [if_neg (by omega)]
        by_cases hlo : lo > 0 <;> simp [-cond_true, -cond_false, ct, cf, rnmR, tl, h1, hlo, h2b]
  · by_cases h1 : w0 < 0
    · by_cases hlo : lo > 0
      · have := q4 hlo
        have h3 : ¬ L = 0 := by omega
        simp [-cond_true, -cond_false, ct, cf, rnmR, tl, h1, hlo, h3]
      · have hL := q5 (by omega)
        rw [hL]
        by_cases h2 : re > 0
        · have h3 : ¬ re = 0 := by omega
          simp [-cond_true, -cond_false, ct, cf, rnmR, tl, h1, hlo, h2, h3]
        · have h3 : re = 0 := by omega
          simp [-cond_true, -cond_false, ct, cf, rnmR, tl, h1, hlo, h3]
    · by_cases hlo : lo > 0 <;> simp [-cond_true, -cond_false, ct, cf, rnmR, tl, h1, hlo]
  · by_cases hlo : lo > 0
    · have := q4 hlo
      have h3 : ¬ L = 0 := by omega
      simp [-cond_true, -cond_false, ct, cf, rnmR, tl, hlo, h3]
    · have hL := q5 (by omega)
      rw [hL]
      by_cases h2 : re > 0
      · have h3 : ¬ re = 0 := by omega
        simp [-cond_true, -cond_false, ct, cf, rnmR, tl, hlo, h2, h3]
      · have h3 : re = 0 := by omega
        simp [-cond_true, -cond_false, ct, cf, rnmR, tl, hlo, h3]
end Y
end Go.Proofs.YtiiddikiaafanaaGreatDoor

/-
  Formats as plain functions: shifting by the specification.
-/
namespace Go.Proofs.YtiiddikiaafanaaGreatDoor
open Go.Pv Go.RowKit
namespace Y
noncomputable abbrev F3 := F_s2_shift_l3 s2_Two s2_rounded s1_FloorDiv
noncomputable abbrev F6 := F_s2_shift_l6 s2_Two s2_rounded s1_FloorDiv
noncomputable abbrev F13 := F_s2_shift_l13 s2_Two s2_rounded s1_FloorDiv
theorem even_eq (w : Int) : (Int.tmod w 2 == 0) = decide (w % 2 = 0) := by
  have h := Z.tmod_two w
  by_cases h0 : w % 2 = 0
  · rw [h.2 h0]; simp [h0]
  · have : ¬ w.tmod 2 = 0 := fun hc => h0 (h.1 hc)
    simp [h0, this]
theorem loop3 (r : ByteArray) (n : Int) : ∀ (N : Nat) (k d : Int), 1 ≤ d ∧ d ≤ 1152921504606846976 → -30 ≤ k ∧ k ≤ 30 → k < N → 0 < N →
    ∃ k' d', (1 ≤ d' ∧ d' ≤ 1152921504606846976) ∧ (-30 ≤ k' ∧ k' ≤ 30) ∧ (∀ m, Z.rndE m n d' k' = Z.rndE m n d k) ∧ ∀ κ, LF F3 N (.h0 r k n d) κ = κ r k' n d'
  | 0, k, d, hd, hk, h1, h2 => absurd h2 (by omega)
  | N + 1, k, d, hd, hk, h1, h2 => by
    have hu : ∀ κ, LF F3 (N + 1) (.h0 r k n d) κ = bif decide (k > 0) then (bif (Int.tmod d 2 == 0) then LF F3 N (.h0 r (IntKind.wrap .i64 (k - 1)) n (IntKind.wrap .i64 (Int.tdiv d 2))) κ else κ r k n d) else κ r k n d := fun κ => rfl
    by_cases h3 : k > 0
    · by_cases h4 : d % 2 = 0
      · have y1 : IntKind.wrap .i64 (Int.tdiv d 2) = d / 2 := by rw [Int.tdiv_eq_ediv_of_nonneg (by omega), iw (by omega)]
        obtain ⟨k', d', a, b, c, e⟩ := loop3 r n N (k - 1) (d / 2) (by omega) (by omega) (by omega) (by omega)
        refine ⟨k', d', a, b, fun m => (c m).trans ?_, fun κ => ?_⟩
        · rw [Z.rndE_d m n (d / 2) k (by omega) h3, show 2 * (d / 2) = d by omega]
        · rw [hu, decide_eq_true h3, ct, even_eq, decide_eq_true h4, ct, y1, iw (x := k - 1) (by omega), e]
      · exact ⟨k, d, hd, hk, fun m => rfl, fun κ => by rw [hu, decide_eq_true h3, ct, even_eq, decide_eq_false h4, cf]⟩
    · exact ⟨k, d, hd, hk, fun m => rfl, fun κ => by rw [hu, decide_eq_false h3, cf]⟩
theorem loop6 (r : ByteArray) (d : Int) (hd : 1 ≤ d) : ∀ (N : Nat) (k n : Int), -4611686018427387904 ≤ n ∧ n ≤ 4611686018427387904 → -30 ≤ k ∧ k ≤ 30 → -k < N → 0 < N →
    ∃ k' n', (-4611686018427387904 ≤ n' ∧ n' ≤ 4611686018427387904) ∧ (-30 ≤ k' ∧ k' ≤ 30) ∧ (∀ m, Z.rndE m n' d k' = Z.rndE m n d k) ∧ ∀ κ, LF F6 N (.h0 r k n d) κ = κ r k' n' d
  | 0, k, n, hn, hk, h1, h2 => absurd h2 (by omega)
  | N + 1, k, n, hn, hk, h1, h2 => by
    have hu : ∀ κ, LF F6 (N + 1) (.h0 r k n d) κ = bif decide (k < 0) then (bif (Int.tmod n 2 == 0) then LF F6 N (.h0 r (IntKind.wrap .i64 (k + 1)) (IntKind.wrap .i64 (Int.tdiv n 2)) d) κ else κ r k n d) else κ r k n d := fun κ => rfl
    by_cases h3 : k < 0
    · by_cases h4 : n % 2 = 0
      · have y1 : IntKind.wrap .i64 (Int.tdiv n 2) = n / 2 := by
          have e0 : n.tmod 2 = 0 := (Z.tmod_two n).2 h4
          have e1 : n.tdiv 2 = n / 2 := by have := Int.mul_tdiv_add_tmod n 2; omega
          rw [e1, iw (by omega)]
        obtain ⟨k', n', a, b, c, e⟩ := loop6 r d hd N (k + 1) (n / 2) (by omega) (by omega) (by omega) (by omega)
        refine ⟨k', n', a, b, fun m => (c m).trans ?_, fun κ => ?_⟩
        · rw [Z.rndE_n m (n / 2) d k (by omega) h3, show 2 * (n / 2) = n by omega]
        · rw [hu, decide_eq_true h3, ct, even_eq, decide_eq_true h4, ct, y1, iw (x := k + 1) (by omega), e]
      · exact ⟨k, n, hn, hk, fun m => rfl, fun κ => by rw [hu, decide_eq_true h3, ct, even_eq, decide_eq_false h4, cf]⟩
    · exact ⟨k, n, hn, hk, fun m => rfl, fun κ => by rw [hu, decide_eq_false h3, cf]⟩
theorem near_far {w d re k : Int} (hd : 0 < d) (hr : 0 ≤ re ∧ re < d) (hk : 0 ≤ k) (h : w > 1099511627776 ∨ w < -1099511627776) : Z.near (w * d + re) d k = false := by
  obtain ⟨a, b⟩ := Z.rndE_far (w := w) hd hr hk
  unfold Z.near
  apply decide_eq_false
  rcases h with h | h
  · have := a h; omega
  · have := b h; omega
theorem loop13 (r : ByteArray) (d : Int) (hd : 1 ≤ d ∧ d ≤ 1152921504606846976) : ∀ (N : Nat) (k w re : Int), -4611686018427387904 ≤ w ∧ w ≤ 4611686018427387904 → 0 ≤ re ∧ re < d → -30 ≤ k ∧ k ≤ 30 → k < N → 0 < N →
    (∃ k' w' re', (-4611686018427387904 ≤ w' ∧ w' ≤ 4611686018427387904) ∧ (0 ≤ re' ∧ re' < d) ∧ (-30 ≤ k' ∧ k' ≤ 0) ∧ (∀ m, Z.rndE m (w' * d + re') d k' = Z.rndE m (w * d + re) d k) ∧ ∀ κ, LF F13 N (.h0 r k d w re 1 0) κ = κ.2 r k' d w' re' 1 0)
    ∨ (∃ k' w' re', Z.near (w * d + re) d k = false ∧ ∀ κ, LF F13 N (.h0 r k d w re 1 0) κ = κ.1 r k' w' false d w' re' 1 0)
  | 0, k, w, re, hw, hr, hk, h1, h2 => absurd h2 (by omega)
  | N + 1, k, w, re, hw, hr, hk, h1, h2 => by
    have hu : ∀ κ, LF F13 (N + 1) (.h0 r k d w re 1 0) κ = B_s2_shift_l13_h0 s2_Two s2_rounded s1_FloorDiv r k d w re 1 0 (fun x' => LF F13 N x' κ) κ.1 κ.2 := fun κ => rfl
    unfold B_s2_shift_l13_h0 at hu
    simp only [two40_eq] at hu
    have z40 : IntKind.wrap .i64 (0 - 1099511627776) = -1099511627776 := by decide
    by_cases h3 : k > 0
    · by_cases h4 : w > 1099511627776
      · exact .inr ⟨k, w, re, near_far (by omega) hr (by omega) (.inl h4), fun κ => by rw [hu, decide_eq_true h3, ct, decide_eq_true h4, Bool.not_true, cf]⟩
      · by_cases h5 : w < -1099511627776
        · exact .inr ⟨k, w, re, near_far (by omega) hr (by omega) (.inr h5), fun κ => by rw [hu, decide_eq_true h3, ct, decide_eq_false h4, Bool.not_false, ct, z40, decide_eq_true h5, ct]⟩
        · have y1 : IntKind.wrap .i64 (d - re) = d - re := iw (by omega)
          have y2 : IntKind.wrap .i64 (2 * w) = 2 * w := iw (by omega)
          have y3 : IntKind.wrap .i64 (2 * w + 1) = 2 * w + 1 := iw (by omega)
          have y4 : IntKind.wrap .i64 (k - 1) = k - 1 := iw (by omega)
          by_cases h6 : re ≥ d - re
          · have y5 : IntKind.wrap .i64 (re - (d - re)) = re - (d - re) := iw (by omega)
            have e : (2 * w + 1) * d + (re - (d - re)) = 2 * (w * d + re) := by rw [Int.add_mul, Int.mul_assoc]; omega
            have hs : ∀ κ, LF F13 (N + 1) (.h0 r k d w re 1 0) κ = LF F13 N (.h0 r (k - 1) d (2 * w + 1) (re - (d - re)) 1 0) κ := fun κ => by
              rw [hu, decide_eq_true h3, ct, decide_eq_false h4, Bool.not_false, ct, z40, decide_eq_false h5, cf, y1, decide_eq_true h6, ct, y2, y3, y4, y5]
            rcases loop13 r d hd N (k - 1) (2 * w + 1) (re - (d - re)) (by omega) (by omega) (by omega) (by omega) (by omega) with ⟨k', w', re', a, b, c, f, g⟩ | ⟨k', w', re', f, g⟩
            · exact .inl ⟨k', w', re', a, b, c, fun m => by rw [f m, e, Z.rndE_dbl m _ d k h3], fun κ => (hs κ).trans (g κ)⟩
            · refine .inr ⟨k', w', re', ?_, fun κ => (hs κ).trans (g κ)⟩
              unfold Z.near at f ⊢
              rw [e, Z.rndE_dbl 0 _ d k h3] at f; exact f
          · have y5 : IntKind.wrap .i64 (2 * re) = 2 * re := iw (by omega)
            have e : (2 * w) * d + 2 * re = 2 * (w * d + re) := by rw [Int.mul_assoc]; omega
            have hs : ∀ κ, LF F13 (N + 1) (.h0 r k d w re 1 0) κ = LF F13 N (.h0 r (k - 1) d (2 * w) (2 * re) 1 0) κ := fun κ => by
              rw [hu, decide_eq_true h3, ct, decide_eq_false h4, Bool.not_false, ct, z40, decide_eq_false h5, cf, y1, decide_eq_false h6, cf, y2, y4, y5]
            rcases loop13 r d hd N (k - 1) (2 * w) (2 * re) (by omega) (by omega) (by omega) (by omega) (by omega) with ⟨k', w', re', a, b, c, f, g⟩ | ⟨k', w', re', f, g⟩
            · exact .inl ⟨k', w', re', a, b, c, fun m => by rw [f m, e, Z.rndE_dbl m _ d k h3], fun κ => (hs κ).trans (g κ)⟩
            · refine .inr ⟨k', w', re', ?_, fun κ => (hs κ).trans (g κ)⟩
              unfold Z.near at f ⊢
              rw [e, Z.rndE_dbl 0 _ d k h3] at f; exact f
    · exact .inl ⟨k, w, re, hw, hr, by omega, fun m => rfl, fun κ => by rw [hu, decide_eq_false h3, cf]⟩
theorem shift_eq {m : Nat} (hm : m ≤ 3) {n0 d0 k0 : Int} (hn : -4611686018427387904 ≤ n0 ∧ n0 ≤ 4611686018427387904) (hd : 1 ≤ d0 ∧ d0 ≤ 1152921504606846976) (hk : -30 ≤ k0 ∧ k0 ≤ 30) :
    ∃ y, (∀ κ, s2_shift (rnmR m) n0 d0 k0 κ = κ y (Z.near n0 d0 k0)) ∧ (Z.near n0 d0 k0 = true → y = Z.rndE m n0 d0 k0) := by
  obtain ⟨k1, d, hd1, hk1, S1, e1⟩ := loop3 (rnmR m) n0 (Int.toNat k0 + 1) k0 d0 hd hk (by omega) (by omega)
  obtain ⟨k2, n, hn2, hk2, S2, e2⟩ := loop6 (rnmR m) d hd1.1 (Int.toNat (0 - k1) + 1) k1 n0 hn hk1 (by omega) (by omega)
  have hr0 := Int.emod_nonneg n (show d ≠ 0 by omega)
  have hr1 := Int.emod_lt_of_pos n (show 0 < d by omega)
  have hdm := Int.mul_ediv_add_emod n d
  rw [Int.mul_comm] at hdm
  have hq0 : -4611686018427387904 ≤ n / d ∧ n / d ≤ 4611686018427387904 := by
    constructor
    · apply (Int.le_ediv_iff_mul_le (by omega)).2; have : (4611686018427387904 : Int) * 1 ≤ 4611686018427387904 * d := Int.mul_le_mul_of_nonneg_left hd1.1 (by omega); omega
    · apply Int.le_of_lt_add_one; apply (Int.ediv_lt_iff_lt_mul (by omega)).2; have : (4611686018427387905 : Int) * 1 ≤ 4611686018427387905 * d := Int.mul_le_mul_of_nonneg_left hd1.1 (by omega); omega
  have y1 : IntKind.wrap .i64 (n / d * d) = n / d * d := iw (by omega)
  have y2 : IntKind.wrap .i64 (n - n / d * d) = n % d := by rw [iw (by omega)]; omega
  have hN : ∀ {n' d' k' : Int}, (∀ m, Z.rndE m n' d' k' = Z.rndE m n0 d0 k0) → Z.near n' d' k' = Z.near n0 d0 k0 := fun h => by unfold Z.near; rw [h 0]
  have S3 : ∀ m, Z.rndE m (n / d * d + n % d) d k2 = Z.rndE m n0 d0 k0 := fun m => by rw [hdm, S2 m, S1 m]
  have z40 : IntKind.wrap .i64 (0 - 1099511627776) = -1099511627776 := by decide
  unfold s2_shift B_s2_shift
  unfold φ_s2_shift_l3 φ_s2_shift_l6 φ_s2_shift_l13
  dsimp only
  rcases loop13 (rnmR m) d hd1 (Int.toNat k2 + 1) k2 (n / d) (n % d) hq0 ⟨hr0, hr1⟩ hk2 (by omega) (by omega) with ⟨k3, w, re, hw, hre, hk3, S4, e3⟩ | ⟨k3, w, re, hf, e3⟩
  · have S5 : ∀ m, Z.rndE m (w * d + re) d k3 = Z.rndE m n0 d0 k0 := fun m => (S4 m).trans (S3 m)
    have hNr := hN S5
    by_cases h3 : k3 < 0
    · obtain ⟨j, rfl⟩ : ∃ j : Nat, k3 = -(j : Int) := ⟨(-k3).toNat, by omega⟩
      have hp := Z.p2_30 j (by omega)
      have hp1 : (2 : Int) ^ j = 2 * 2 ^ (j - 1) := by have := Z.p2_add (j - 1) 1; rw [show j - 1 + 1 = j by omega] at this; omega
      have hp2 := Z.p2_pos (j - 1)
      have y3 : IntKind.wrap .i64 (0 - -(j : Int)) = (j : Int) := by rw [iw (by omega)]; omega
      have hl0 := Int.emod_nonneg w (show (2 : Int) ^ j ≠ 0 by omega)
      have hl1 := Int.emod_lt_of_pos w (show (0 : Int) < 2 ^ j by omega)
      have hwm := Int.mul_ediv_add_emod w (2 ^ j)
      rw [Int.mul_comm] at hwm
      have y4 : IntKind.wrap .i64 (w / 2 ^ j * 2 ^ j) = w / 2 ^ j * 2 ^ j := iw (by omega)
      have y5 : IntKind.wrap .i64 (w - w / 2 ^ j * 2 ^ j) = w % 2 ^ j := by rw [iw (by omega)]; omega
      have hR : ∀ m, Z.rndE m n0 d0 k0 = Z.rnd m ((w / 2 ^ j * 2 ^ j + w % 2 ^ j) * d + re) (d * 2 ^ j) := fun m => by rw [← S5 m, Z.rndE_neg, hwm]
      have hR0 : Z.rndE 0 n0 d0 k0 = w / 2 ^ j := by rw [hR 0, Z.rnd_split2 0 (by omega) (by omega) hre ⟨hl0, hl1⟩]; rfl
      have hNe : Z.near n0 d0 k0 = decide (-1099511627776 ≤ w / 2 ^ j ∧ w / 2 ^ j ≤ 1099511627776) := by unfold Z.near; rw [hR0]
      by_cases h4 : w / 2 ^ j > 1099511627776
      · refine ⟨w / 2 ^ j, fun κ => ?_, fun h => ?_⟩
        · rw [e1, e2, fdiv_eq hn2 (by omega)]
          rw [y1, y2, e3]
          dsimp only
          rw [decide_eq_true h3, ct, y3, two_eq _ (by omega), Int.toNat_natCast, fdiv_eq hw (by omega), two40_eq, decide_eq_true h4, Bool.not_true, cf, hNe, decide_eq_false (by omega)]
        · rw [hNe, decide_eq_true_iff] at h; omega
      · by_cases h5 : w / 2 ^ j < -1099511627776
        · refine ⟨w / 2 ^ j, fun κ => ?_, fun h => ?_⟩
          · rw [e1, e2, fdiv_eq hn2 (by omega)]
            rw [y1, y2, e3]
            dsimp only
            rw [decide_eq_true h3, ct, y3, two_eq _ (by omega), Int.toNat_natCast, fdiv_eq hw (by omega), two40_eq, decide_eq_false h4, Bool.not_false, ct, two40_eq, z40, decide_eq_true h5, ct, hNe, decide_eq_false (by omega)]
          · rw [hNe, decide_eq_true_iff] at h; omega
        · refine ⟨Z.rndE m n0 d0 k0, fun κ => ?_, fun _ => rfl⟩
          rw [e1, e2, fdiv_eq hn2 (by omega)]
          rw [y1, y2, e3]
          dsimp only
          rw [decide_eq_true h3, ct, y3, two_eq _ (by omega), Int.toNat_natCast, fdiv_eq hw (by omega), two40_eq, decide_eq_false h4, Bool.not_false, ct, two40_eq, z40, decide_eq_false h5, cf, y4, y5, rrB_eq hm (by omega) (by omega) hre (by omega) ⟨hl0, hl1⟩, hNe, decide_eq_true (by omega), hR m]
    · have hz : k3 = 0 := by omega
      subst hz
      have hR : ∀ m, Z.rndE m n0 d0 k0 = Z.rnd m (w * d + re) d := fun m => by
        rw [← S5 m]; have := Z.rndE_pos m (w * d + re) d 0; rw [Int.pow_zero, Int.mul_one] at this; exact this
      have hR0 : Z.rndE 0 n0 d0 k0 = w := by rw [hR 0, Z.rnd_split 0 (by omega) hre]; rfl
      have hNe : Z.near n0 d0 k0 = decide (-1099511627776 ≤ w ∧ w ≤ 1099511627776) := by unfold Z.near; rw [hR0]
      have z0 : decide ((0 : Int) < 0) = false := by decide
      by_cases h4 : w > 1099511627776
      · refine ⟨w, fun κ => ?_, fun h => ?_⟩
        · rw [e1, e2, fdiv_eq hn2 (by omega)]
          rw [y1, y2, e3]
          dsimp only
          rw [z0, cf, two40_eq, decide_eq_true h4, Bool.not_true, cf, hNe, decide_eq_false (by omega)]
        · rw [hNe, decide_eq_true_iff] at h; omega
      · by_cases h5 : w < -1099511627776
        · refine ⟨w, fun κ => ?_, fun h => ?_⟩
          · rw [e1, e2, fdiv_eq hn2 (by omega)]
            rw [y1, y2, e3]
            dsimp only
            rw [z0, cf, two40_eq, decide_eq_false h4, Bool.not_false, ct, two40_eq, z40, decide_eq_true h5, ct, hNe, decide_eq_false (by omega)]
          · rw [hNe, decide_eq_true_iff] at h; omega
        · refine ⟨Z.rndE m n0 d0 k0, fun κ => ?_, fun _ => rfl⟩
          rw [e1, e2, fdiv_eq hn2 (by omega)]
          rw [y1, y2, e3]
          dsimp only
          rw [z0, cf, two40_eq, decide_eq_false h4, Bool.not_false, ct, two40_eq, z40, decide_eq_false h5, cf, rrA_eq hm (by omega) (by omega) hre, hNe, decide_eq_true (by omega), hR m]
  · refine ⟨w, fun κ => ?_, fun h => ?_⟩
    · rw [e1, e2, fdiv_eq hn2 (by omega)]
      rw [y1, y2, e3]
      dsimp only
      rw [← hN S3, hf]
    · rw [← hN S3, hf] at h; cases h
end Y
end Go.Proofs.YtiiddikiaafanaaGreatDoor
