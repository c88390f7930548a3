import Derived.Test.YtiiddikiaafanaaGreatDoorYf
set_option linter.all false
/-
  Formats as plain functions: what a fraction comes to, by the specification.
-/
namespace Go.Proofs.YtiiddikiaafanaaGreatDoor
open Go.Pv Go.RowKit
namespace Y
theorem shift_yes {m : Nat} (hm : m ≤ 3) {n0 d0 k0 : Int} (hn : -4611686018427387904 ≤ n0 ∧ n0 ≤ 4611686018427387904) (hd : 1 ≤ d0 ∧ d0 ≤ 1152921504606846976) (hk : -30 ≤ k0 ∧ k0 ≤ 30) (hN : Z.near n0 d0 k0 = true) (κ : Int → Bool → Option DV) :
    s2_shift (rnmR m) n0 d0 k0 κ = κ (Z.rndE m n0 d0 k0) true := by
  obtain ⟨y, h1, h2⟩ := shift_eq hm hn hd hk
  rw [h1, hN, h2 hN]
theorem smk_eq {n d : Int} (hn : I64 n) (hd : I64 d) (k : Int → Int → Option DV) : s1_Make n d k = k (Q.mk n d).1 (Q.mk n d).2 := by
  unfold s1_Make
  rw [decide_eq_true ⟨hn, hd⟩, ct]
noncomputable abbrev FB := F_s2_below_l7 s2_Two
theorem loopB_eq (n d : Int) (hd : 1 ≤ d ∧ d ≤ 1152921504606846976) (K : Bool → Option DV) : ∀ (N : Nat) (k x : Int), 0 ≤ x ∧ x ≤ 4611686018427387904 → -60 ≤ k ∧ k ≤ 0 → -k < N → LF FB N (.h0 k x n d) (fun b _ _ _ => K b, fun a _ c => K (decide (a < c))) = K (Z.below x d k)
  | 0, k, x, hx, hk, h => absurd h (by omega)
  | N + 1, k, x, hx, hk, h => by
    have hu : ∀ κ, LF FB (N + 1) (.h0 k x n d) κ = bif decide (k < 0) then (bif decide (x ≥ d) then κ.1 false x n d else LF FB N (.h0 (IntKind.wrap .i64 (k + 1)) (IntKind.wrap .i64 (2 * x)) n d) κ) else κ.2 x n d := fun κ => rfl
    rw [hu]
    by_cases h1 : k < 0
    · rw [decide_eq_true h1, ct]
      by_cases h2 : x ≥ d
      · rw [decide_eq_true h2, ct, below_no x d k hx.1 h1 h2]
      · rw [decide_eq_false h2, cf, iw (x := k + 1) (by omega), iw (x := 2 * x) (by omega), loopB_eq n d hd K N (k + 1) (2 * x) (by omega) (by omega) (by omega), below_dbl x d k hx.1 h1]
    · have hz : k = 0 := by omega
      subst hz
      rw [decide_eq_false h1, cf]
      have := Z.below_pos x d 0
      rw [Int.pow_zero, Int.mul_one, show (x.natAbs : Int) = x by omega] at this
      exact congrArg K this.symm
theorem sbelow_eq {n d e : Int} (hn : -4611686018427387904 ≤ n ∧ n ≤ 4611686018427387904) (hd : 1 ≤ d ∧ d ≤ 1152921504606846976) (he : -60 ≤ e ∧ e ≤ 60) (k : Bool → Option DV) : s2_below n d e k = k (Z.below n d e) := by
  have dz : (d == 0) = false := by rw [beq_eq_false_iff_ne]; omega
  have A : ∀ N : Int, 0 ≤ N ∧ N ≤ 4611686018427387904 → Z.below n d e = Z.below N d e →
      (bif decide (e ≥ 0) then s2_Two e (fun r1 => k (decide (IntKind.wrap .i64 (Int.tdiv N d) < r1))) else LF FB (Int.toNat (0 - e) + 1) (.h0 e N n d) (fun b _ _ _ => k b, fun a _ c => k (decide (a < c)))) = k (Z.below n d e) := by
    intro N hN hE
    rw [hE]
    by_cases h1 : e ≥ 0
    · obtain ⟨j, rfl⟩ := Int.eq_ofNat_of_zero_le h1
      have hp := Z.p2_pos j
      rw [decide_eq_true h1, ct, two_eq _ (by omega), Int.toNat_natCast, Int.tdiv_eq_ediv_of_nonneg hN.1, iw (by have := Int.ediv_nonneg hN.1 (show 0 ≤ d by omega); have := Int.ediv_le_self d hN.1; omega), Z.below_pos, show (N.natAbs : Int) = N by omega]
      congr 2
      rw [Int.mul_comm d]
      exact propext (Int.ediv_lt_iff_lt_mul (by omega))
    · rw [decide_eq_false h1, cf, loopB_eq n d hd k _ e N hN (by omega) (by omega)]
  unfold s2_below B_s2_below
  unfold φ_s2_below_l7
  dsimp only
  rw [dz]
  by_cases h0 : n < 0
  · rw [decide_eq_true h0, ct, cf, iw (x := 0 - n) (by omega)]
    exact A (0 - n) (by omega) (by unfold Z.below; rw [show (n.natAbs : Int) = ((0 - n).natAbs : Int) by omega])
  · rw [decide_eq_false h0, cf, cf]
    exact A n (by omega) rfl
theorem scaled_eq {m x : Int} (hx : -30 ≤ x ∧ x ≤ 30) (hm : -4611686018427387904 ≤ m * 2 ^ x.toNat ∧ m * 2 ^ x.toNat ≤ 4611686018427387904) (k : Int → Int → Option DV) : s2_scaled m x k = k (Z.pw m x).1 (Z.pw m x).2 := by
  unfold s2_scaled B_s2_scaled Z.pw
  by_cases h : x < 0
  · have hp := Z.p2_30 (-x).toNat (by omega)
    rw [show x.toNat = 0 by omega, Int.pow_zero, Int.mul_one] at hm
    rw [decide_eq_true h, ct, iw (x := 0 - x) (by omega), two_eq _ (by omega), smk_eq (by omega) (by rw [show (0 - x).toNat = (-x).toNat by omega]; omega), if_pos h, show (0 - x).toNat = (-x).toNat by omega]
  · rw [decide_eq_false h, cf, two_eq _ (by omega), iw (by omega), smk_eq (by omega) (by decide), if_neg h]
theorem sbeyond_eq {k0 r o : ByteArray} {I F : Nat} (h : I + F ≤ 30) (neg : Bool) (hov : (o.toList == [115, 97, 116]) = false → ovn o = 2) (hsat : (o.toList == [115, 97, 116]) = true → ovn o = 0) (k : Int → Int → Option DV) :
    s2_beyond k0 I F r o neg k = k (Z.bey (ovn o) false I F neg).1 (Z.bey (ovn o) false I F neg).2 := by
  have hp := pb_of h
  have hi := hp.i
  have ht := top_bd h
  unfold s2_beyond B_s2_beyond Z.bey
  simp only [tl]
  cases hs : (o.toList == [115, 97, 116])
  · rw [Bool.not_false, ct, if_pos (hov hs)]; rfl
  · rw [Bool.not_true, cf, if_neg (by rw [hsat hs]; decide), two_eq _ (by omega), Int.toNat_natCast, iw (x := 2 ^ I - 1) (by omega)]
    cases neg
    · rw [cf, scaled_eq (by omega) (by rw [Int.toNat_natCast]; omega), if_neg (by decide)]
      unfold Z.grt Z.pw
      rw [if_neg (by omega), if_neg (by decide), Int.toNat_natCast]
    · rw [ct, iw (x := 0 - (2 ^ I - 1)) (by omega), Int.zero_sub, scaled_eq (by omega) (by rw [Int.toNat_natCast, Int.neg_mul]; omega), if_pos rfl]
      unfold Z.lst Z.pw
      rw [if_neg (by omega), if_neg (by decide), Int.toNat_natCast, Int.neg_mul]
theorem wrapped_eq {k0 o : ByteArray} {m I F : Nat} (hm : m ≤ 2) (h : I + F ≤ 30) {n d : Int} (hn : -2305843009213693952 ≤ n ∧ n ≤ 2305843009213693952) (hd : 1 ≤ d ∧ d ≤ 1152921504606846976) (hneg : n < 0 → 2 ^ (I + 1) * d ≤ 4611686018427387904) (k : Int → Int → Option DV) :
    s2_wrapped k0 I F (rnmR m) o n d (2 ^ (I + F)) k = k (Q.mk ((Z.rnd m (n * 2 ^ F) d + 2 ^ (I + F)) % (2 * 2 ^ (I + F)) - 2 ^ (I + F)) (2 ^ F)).1 (Q.mk ((Z.rnd m (n * 2 ^ F) d + 2 ^ (I + F)) % (2 * 2 ^ (I + F)) - 2 ^ (I + F)) (2 ^ F)).2 := by
  have hp := pb_of h
  have hh := hp.h; have hf := hp.f
  have T1 := Z.p2_31 (I + 1) (by omega)
  have wr := wr_of hn hd T1 hneg
  obtain ⟨mm, hmm⟩ : ∃ mm, mm = (if m = 2 then (if n < 0 then 3 else 0) else m) := ⟨_, rfl⟩
  have hm3 : mm ≤ 3 := by rw [hmm]; split <;> (try split) <;> omega
  obtain ⟨t, ht⟩ : ∃ t, n / d / (2 : Int) ^ (I + 1) = t := ⟨_, rfl⟩
  rw [ht] at wr
  obtain ⟨s, hs⟩ : ∃ s, n - t * (2 : Int) ^ (I + 1) * d = s := ⟨_, rfl⟩
  rw [hs] at wr
  have sb := wr.sb
  have sT := wr.sT
  have hsF : s * 2 ^ F ≤ (2 * 2 ^ (I + F)) * d := by
    have h1 : s * 2 ^ F ≤ 2 ^ (I + 1) * d * 2 ^ F := Int.mul_le_mul_of_nonneg_right (by omega) (by omega)
    have h2 : (2 : Int) ^ (I + 1) * d * 2 ^ F = 2 * 2 ^ (I + F) * d := by
      rw [Int.mul_right_comm, ← Z.p2_add, show I + 1 + F = I + F + 1 by omega, Int.pow_succ, Int.mul_comm (2 ^ (I + F)) 2]
    omega
  have hs0 : 0 * d ≤ s * 2 ^ F := by rw [Int.zero_mul]; exact Int.mul_nonneg sb.1 (by omega)
  have kb : ∀ q, 0 ≤ Z.rndE q s d (F : Int) ∧ Z.rndE q s d (F : Int) ≤ 2 * 2 ^ (I + F) := fun q => by
    rw [Z.rndE_pos]; exact ⟨Z.rnd_ge q _ _ 0 (by omega) hs0, Z.rnd_le q _ _ _ (by omega) hsF⟩
  have hN : Z.near s d (F : Int) = true := by
    unfold Z.near
    have := kb 0
    exact decide_eq_true (by omega)
  have hturn := Z.fix_turns m mm I F n d t (by omega) (by
    by_cases h2 : m = 2
    · rw [hmm, if_pos h2]
      by_cases h0 : n < 0
      · rw [if_pos h0]; exact Or.inr (Or.inr (Or.inr ⟨h2, rfl, h0⟩))
      · rw [if_neg h0]; exact Or.inr (Or.inr (Or.inl ⟨h2, rfl, by omega⟩))
    · rw [hmm, if_neg h2]; exact Or.inl ⟨rfl, by omega⟩)
  rw [show n - t * (d * 2 ^ (I + 1)) = s by rw [← hs, Int.mul_comm d, Int.mul_assoc], ← Z.rndE_pos mm s d F] at hturn
  have hmod := mod_range (Z.rndE mm s d (F : Int)) (2 ^ (I + F)) (by omega)
  rw [hturn] at hmod
  rw [hmod]
  have m1 := Int.emod_nonneg (Z.rndE mm s d (F : Int)) (show (2 * 2 ^ (I + F) : Int) ≠ 0 by omega)
  have m2 := Int.emod_lt_of_pos (Z.rndE mm s d (F : Int)) (show (0 : Int) < 2 * 2 ^ (I + F) by omega)
  have kbm := kb mm
  have SH := shift_yes hm3 (n0 := s) (d0 := d) (k0 := (F : Int)) (by omega) hd (by omega) hN
  have y1 : IntKind.wrap .i64 ((I : Int) + 1) = ((I + 1 : Nat) : Int) := by rw [iw (by omega)]; omega
  have y2 : IntKind.wrap .i64 (2 * 2 ^ (I + F)) = 2 * 2 ^ (I + F) := iw (by omega)
  have y3 : IntKind.wrap .i64 (t * 2 ^ (I + 1)) = t * 2 ^ (I + 1) := iw (by have := wr.tb; omega)
  have y4 : IntKind.wrap .i64 (t * 2 ^ (I + 1) * d) = t * 2 ^ (I + 1) * d := iw (by have := wr.pb; omega)
  have y5 : IntKind.wrap .i64 s = s := iw (by omega)
  have hz : ((2 * 2 ^ (I + F) : Int) == 0) = false := by rw [beq_eq_false_iff_ne]; omega
  have tF : ∀ κ, s2_Two (F : Int) κ = κ (2 ^ F) := fun κ => by rw [two_eq _ (by omega), Int.toNat_natCast]
  unfold s2_wrapped B_s2_wrapped
  rw [y1, two_eq _ (by omega), Int.toNat_natCast, fdiv_eq (by omega) (by omega), fdiv_eq wr.qb (by omega), ht, y2, y3, y4, hs, y5, hz]
  simp only [tl, tF, cf]
  -- what stands behind the shift, in each case
  have TL : ∀ K : Int, 0 ≤ K ∧ K ≤ 2 * 2 ^ (I + F) → (bif decide (Int.tmod K (2 * 2 ^ (I + F)) < 0) then (bif decide (IntKind.wrap .i64 ((Int.tmod K (2 * 2 ^ (I + F))) + (2 * 2 ^ (I + F))) ≥ 2 ^ (I + F)) then (s1_Make (IntKind.wrap .i64 ((IntKind.wrap .i64 ((Int.tmod K (2 * 2 ^ (I + F))) + (2 * 2 ^ (I + F)))) - (2 * 2 ^ (I + F)))) (2 ^ F) (fun r7 r8 => k r7 r8)) else (s1_Make (IntKind.wrap .i64 ((Int.tmod K (2 * 2 ^ (I + F))) + (2 * 2 ^ (I + F)))) (2 ^ F) (fun r10 r11 => k r10 r11))) else (bif decide (Int.tmod K (2 * 2 ^ (I + F)) ≥ 2 ^ (I + F)) then (s1_Make (IntKind.wrap .i64 ((Int.tmod K (2 * 2 ^ (I + F))) - (2 * 2 ^ (I + F)))) (2 ^ F) (fun r13 r14 => k r13 r14)) else (s1_Make (Int.tmod K (2 * 2 ^ (I + F))) (2 ^ F) (fun r16 r17 => k r16 r17))))
      = k (Q.mk (if 2 ^ (I + F) ≤ K % (2 * 2 ^ (I + F)) then K % (2 * 2 ^ (I + F)) - 2 * 2 ^ (I + F) else K % (2 * 2 ^ (I + F))) (2 ^ F)).1 (Q.mk (if 2 ^ (I + F) ≤ K % (2 * 2 ^ (I + F)) then K % (2 * 2 ^ (I + F)) - 2 * 2 ^ (I + F) else K % (2 * 2 ^ (I + F))) (2 ^ F)).2 := by
    intro K hK
    have e : Int.tmod K (2 * 2 ^ (I + F)) = K % (2 * 2 ^ (I + F)) := Int.tmod_eq_emod_of_nonneg hK.1
    rw [e]
    have m1 := Int.emod_nonneg K (show (2 * 2 ^ (I + F) : Int) ≠ 0 by omega)
    have m2 := Int.emod_lt_of_pos K (show (0 : Int) < 2 * 2 ^ (I + F) by omega)
    generalize K % (2 * 2 ^ (I + F)) = Y at *
    rw [decide_eq_false (show ¬ Y < 0 by omega), cf]
    by_cases h1 : 2 ^ (I + F) ≤ Y
    · rw [decide_eq_true (show Y ≥ 2 ^ (I + F) from h1), ct, iw (by omega), smk_eq (by omega) (by omega), if_pos h1]
    · rw [decide_eq_false (show ¬ Y ≥ 2 ^ (I + F) from h1), cf, smk_eq (by omega) (by omega), if_neg h1]
  have hcase : m = 0 ∨ m = 1 ∨ m = 2 := by omega
  rcases hcase with rfl | rfl | rfl
  · have e : mm = 0 := hmm
    subst e
    rw [show ((rnmR 0).toList == [122, 101, 114, 111]) = false by simp [rnmR, tl], cf, SH]
    exact TL _ kbm
  · have e : mm = 1 := hmm
    subst e
    rw [show ((rnmR 1).toList == [122, 101, 114, 111]) = false by simp [rnmR, tl], cf, SH]
    exact TL _ kbm
  · rw [show ((rnmR 2).toList == [122, 101, 114, 111]) = true by simp [rnmR, tl], ct]
    by_cases h0 : n < 0
    · have e : mm = 3 := by rw [hmm, if_pos rfl, if_pos h0]
      subst e
      have e2 : (⟨#[117, 112]⟩ : ByteArray) = rnmR 3 := rfl
      rw [decide_eq_true h0, ct, e2, SH]
      exact TL _ kbm
    · have e : mm = 0 := by rw [hmm, if_pos rfl, if_neg h0]
      subst e
      have e2 : (⟨#[102, 108, 111, 111, 114]⟩ : ByteArray) = rnmR 0 := rfl
      rw [decide_eq_false h0, cf, e2, SH]
      exact TL _ kbm
end Y
end Go.Proofs.YtiiddikiaafanaaGreatDoor

/-
  Formats as plain functions: Fit by the specification.
-/
namespace Go.Proofs.YtiiddikiaafanaaGreatDoor
open Go.Pv Go.RowKit
namespace Y
/-- Where a shift is not near: what is rounded lies far beyond, on the number's side. -/
theorem far_side {m F : Nat} {n d : Int} (hd : 1 ≤ d) (hN : Z.near n d (F : Int) = false) : (0 ≤ n ∧ 1099511627776 < Z.rndE m n d (F : Int)) ∨ (n < 0 ∧ Z.rndE m n d (F : Int) ≤ -1099511627776) := by
  have hp := Z.p2_pos F
  have h1 := of_decide_eq_false hN
  rw [Z.rndE_pos, Z.rnd_0] at h1
  rw [Z.rndE_pos]
  have hr := Z.rnd_near m (n * 2 ^ F) d (by omega)
  by_cases h0 : 0 ≤ n
  · have := Int.ediv_nonneg (Int.mul_nonneg h0 (show (0 : Int) ≤ 2 ^ F by omega)) (show 0 ≤ d by omega)
    exact .inl ⟨h0, by omega⟩
  · have := Z.rnd_le 0 (n * 2 ^ F) d 0 (by omega) (by have := Int.mul_neg_of_neg_of_pos (show n < 0 by omega) (show (0 : Int) < 2 ^ F by omega); omega)
    rw [Z.rnd_0] at this
    exact .inr ⟨by omega, by omega⟩
theorem neg_low {m F : Nat} {n d : Int} (hd : 1 ≤ d) (h : n < 0) : Z.rndE m n d (F : Int) ≤ 0 := by
  rw [Z.rndE_pos]
  have hp := Z.p2_pos F
  exact Z.rnd_le m (n * 2 ^ F) d 0 (by omega) (by have := Int.mul_neg_of_neg_of_pos h (show (0 : Int) < 2 ^ F by omega); omega)
theorem sfix_eq {k0 o : ByteArray} {m I F : Nat} (hm : m ≤ 2) (h : I + F ≤ 30) {n d : Int} (hn : -2305843009213693952 ≤ n ∧ n ≤ 2305843009213693952) (hd : 1 ≤ d ∧ d ≤ 1152921504606846976) (hov : (o.toList == [115, 97, 116]) = false → (o.toList == [119, 114, 97, 112]) = false → ovn o = 2) (hsat : (o.toList == [115, 97, 116]) = true → ovn o = 0) (k : Int → Int → Option DV) :
    s2_fix k0 I F (rnmR m) o n d k = k (Z.fixV (ovn o) m I F n d).1 (Z.fixV (ovn o) m I F n d).2 := by
  have hp := pb_of h
  have hh := hp.h; have hf := hp.f
  have eR : Z.rndE m n d (F : Int) = Z.rnd m (n * 2 ^ F) d := Z.rndE_pos _ _ _ _
  have y0 : IntKind.wrap .i64 ((I : Int) + F) = ((I + F : Nat) : Int) := by rw [iw (by omega)]; omega
  have y1 : IntKind.wrap .i64 (0 - 2 ^ (I + F)) = -(2 ^ (I + F)) := by rw [iw (by omega)]; omega
  have y2 : IntKind.wrap .i64 (2 ^ (I + F) - 1) = 2 ^ (I + F) - 1 := iw (by omega)
  have tF : ∀ κ, s2_Two (F : Int) κ = κ (2 ^ F) := fun κ => by rw [two_eq _ (by omega), Int.toNat_natCast]
  have T : ∀ {a b : Int × Int}, a = b → k a.1 a.2 = k b.1 b.2 := by rintro a b rfl; rfl
  obtain ⟨y, hy1, hy2⟩ := shift_eq (m := m) (by omega) (n0 := n) (d0 := d) (k0 := (F : Int)) (by omega) hd (by omega)
  have nu : ∀ κ, s1_None κ = κ 0 0 := fun κ => rfl
  unfold s2_fix B_s2_fix
  rw [y0, two_eq _ (by omega), Int.toNat_natCast, hy1]
  simp only [tl, y1, y2, tF, smk_eq (show I64 (-(2 ^ (I + F))) by unfold I64; omega) (show I64 (2 ^ F) by unfold I64; omega), smk_eq (show I64 (2 ^ (I + F) - 1) by unfold I64; omega) (show I64 (2 ^ F) by unfold I64; omega), nu]
  -- what is told of a number beyond the ends
  have TL : ¬ (-(2 ^ (I + F)) ≤ Z.rndE m n d (F : Int) ∧ Z.rndE m n d (F : Int) < 2 ^ (I + F)) →
      (bif (o.toList == [115, 97, 116]) then (bif decide (n < 0) then k (Q.mk (-(2 ^ (I + F))) (2 ^ F)).1 (Q.mk (-(2 ^ (I + F))) (2 ^ F)).2 else k (Q.mk (2 ^ (I + F) - 1) (2 ^ F)).1 (Q.mk (2 ^ (I + F) - 1) (2 ^ F)).2) else (bif (o.toList == [119, 114, 97, 112]) then (s2_wrapped k0 I F (rnmR m) o n d (2 ^ (I + F)) (fun a b => k a b)) else k 0 0)) = k (Z.fixV (ovn o) m I F n d).1 (Z.fixV (ovn o) m I F n d).2 := by
    intro hK
    cases hs : (o.toList == [115, 97, 116])
    · rw [cf]
      cases hw : (o.toList == [119, 114, 97, 112])
      · rw [cf]
        exact T (a := (0, 0)) (by unfold Z.fixV; rw [hov hs hw, if_neg (by decide), if_neg (by rw [← eR]; exact hK)]; rfl)
      · rw [ct, wrapped_eq hm h hn hd]
        · exact T (by unfold Z.fixV; rw [if_pos (ov_wrap hw)])
        · intro h0
          have h2 := neg_low (m := m) (F := F) hd.1 h0
          have h3 := fix_neg (m := m) (I := I) (F := F) (n := n) hd.1 (by omega)
          rw [Int.pow_succ, Int.mul_right_comm]; omega
    · rw [ct]
      have e : Z.fixV (ovn o) m I F n d = Z.bey 0 true I F (decide (n < 0)) := by unfold Z.fixV; rw [hsat hs, if_neg (by decide), if_neg (by rw [← eR]; exact hK)]
      rw [e]
      cases decide (n < 0)
      · rw [cf]; rfl
      · rw [ct]; rfl
  cases hN : Z.near n d (F : Int)
  · rw [cf]
    exact TL (by have := far_side (m := m) hd.1 hN; omega)
  · rw [ct, hy2 hN]
    by_cases h1 : Z.rndE m n d (F : Int) ≥ -(2 ^ (I + F))
    · rw [decide_eq_true h1, ct]
      by_cases h2 : Z.rndE m n d (F : Int) < 2 ^ (I + F)
      · rw [decide_eq_true h2, ct, smk_eq (by omega) (by omega)]
        have hi : ¬ ovn o = 1 ∨ ovn o = 1 := by omega
        rcases hi with hi | hi
        · exact T (by unfold Z.fixV; rw [if_neg hi, if_pos (by rw [← eR]; omega), eR])
        · refine T ?_
          unfold Z.fixV
          rw [if_pos hi, ← eR, Int.emod_eq_of_lt (by omega) (by omega), Int.add_sub_cancel]
      · rw [decide_eq_false h2, cf]
        exact TL (by omega)
    · rw [decide_eq_false h1, cf]
      exact TL (by omega)
noncomputable abbrev FF := F_s2_float_l4 s1_Whole s2_below s2_beyond s2_scaled s2_Two s2_shift
theorem sflo_loop {k0 r o : ByteArray} {I F : Nat} (h : I + F ≤ 30) {n d : Int} (hn : -2305843009213693952 ≤ n ∧ n ≤ 2305843009213693952) (hd : 1 ≤ d ∧ d ≤ 1152921504606846976) (κ : Int → ByteArray → Int → Int → ByteArray → ByteArray → Int → Int → Int → Int → Option DV) :
    ∀ (N : Nat) (x : Int), -(F : Int) ≤ x → x ≤ F + 1 → (F : Int) + 1 - x < N → LF FF N (.h0 x k0 I F r o n d 0 0) κ = κ (Z.flx I n d ((F : Int) + 1 - x).toNat x) k0 I F r o n d 0 0
  | 0, x, h1, h2, h3 => absurd h3 (by omega)
  | N + 1, x, h1, h2, h3 => by
    have ih := sflo_loop (k0 := k0) (r := r) (o := o) h hn hd κ N (x + 1) (by omega)
    have hu : LF FF (N + 1) (.h0 x k0 I F r o n d 0 0) κ = bif decide (x ≤ F) then (s2_below n d (IntKind.wrap .i64 ((I : Int) + x)) (fun r3 => bif !r3 then LF FF N (.h0 (IntKind.wrap .i64 (x + 1)) k0 I F r o n d 0 0) κ else κ x k0 I F r o n d 0 0)) else κ x k0 I F r o n d 0 0 := rfl
    rw [hu]
    by_cases h4 : x ≤ F
    · rw [decide_eq_true h4, ct, iw (x := (I : Int) + x) (by omega), sbelow_eq (by omega) hd (by omega), iw (x := x + 1) (by omega), show ((F : Int) + 1 - x).toNat = ((F : Int) + 1 - (x + 1)).toNat + 1 by omega]
      unfold Z.flx
      cases hb : Z.below n d ((I : Int) + x)
      · rw [Bool.not_false, ct, ih (by omega) (by omega)]
        simp only [Bool.false_eq_true, if_false]
      · rw [Bool.not_true, cf]
        simp only [if_true]
    · rw [decide_eq_false h4, cf, show ((F : Int) + 1 - x).toNat = 0 by omega]
      rfl
theorem sfloat_eq {k0 o : ByteArray} {m I F : Nat} (hm : m ≤ 2) (h : I + F ≤ 30) {n d : Int} (hn : -2305843009213693952 ≤ n ∧ n ≤ 2305843009213693952) (hd : 1 ≤ d ∧ d ≤ 1152921504606846976) (hI1 : 1 ≤ I) (hF20 : F ≤ 20) (hov : (o.toList == [115, 97, 116]) = false → ovn o = 2) (hsat : (o.toList == [115, 97, 116]) = true → ovn o = 0) (k : Int → Int → Option DV) :
    s2_float k0 I F (rnmR m) o n d k = k (Z.floatV (ovn o) m I F n d).1 (Z.floatV (ovn o) m I F n d).2 := by
  have hp := pb_of h
  have hi := hp.i
  have T : ∀ {a b : Int × Int}, a = b → k a.1 a.2 = k b.1 b.2 := by rintro a b rfl; rfl
  have hE : Z.flx I n d ((F : Int) + 1 - -(F : Int)).toNat (-(F : Int)) = Z.expo I F n d := by unfold Z.expo; congr 1; omega
  obtain ⟨s1, s2, s3, s4⟩ := Z.flx_spec I n d (2 * F + 1) (-(F : Int))
  unfold s2_float B_s2_float
  by_cases h0 : n = 0
  · subst h0
    rw [show ((0 : Int) == 0) = true by decide, ct, float_zero hI1 hd.1]
    rfl
  · rw [beq_eq_false_iff_ne.2 h0, cf]
    have e0 : IntKind.wrap .i64 (0 - (F : Int)) = -(F : Int) := by rw [iw (by omega)]; omega
    rw [e0]
    unfold φ_s2_float_l4
    dsimp only
    rw [sflo_loop h hn hd _ _ _ (by omega) (by omega) (by omega), hE]
    simp only [sbeyond_eq h _ hov hsat]
    by_cases hX : Z.expo I F n d = F + 1
    · rw [decide_eq_true (by omega), ct]
      exact T (by unfold Z.floatV; rw [if_pos hX])
    · have hF : Z.expo I F n d ≤ F := by unfold Z.expo at *; omega
      obtain ⟨a1, a2, a3, a4, a5⟩ := flo_at (m := m) h hI1 hn hd rfl hF
      obtain ⟨b1, b2, b3, b4, b5⟩ := flo_at (m := 0) h hI1 hn hd rfl hF
      have hN := near_of (n := n) (d := d) (k := -Z.expo I F n d) ⟨b4, b5⟩ (by omega)
      have hf := flo_pw h hF ⟨a4, a5⟩
      have T2 : Z.floatV (ovn o) m I F n d = if Z.expo I F n d = F ∧ (Z.rndE m n d (-Z.expo I F n d) = 2 ^ I ∨ Z.rndE m n d (-Z.expo I F n d) = -(2 ^ I)) then Z.bey (ovn o) false I F (decide (n < 0)) else Z.pw (Z.rndE m n d (-Z.expo I F n d)) (Z.expo I F n d) := by
        unfold Z.floatV; rw [if_neg hX]
      rw [T2]
      generalize Z.expo I F n d = X at *
      rw [decide_eq_false (by omega), cf, iw (x := 0 - X) (by omega), Int.zero_sub, shift_yes (by omega) (by omega) hd (by omega) hN]
      generalize Z.rndE m n d (-X) = M at *
      have tI : ∀ κ, s2_Two (I : Int) κ = κ (2 ^ I) := fun κ => by rw [two_eq _ (by omega), Int.toNat_natCast]
      have y1 : IntKind.wrap .i64 (0 - 2 ^ I) = -(2 ^ I) := by rw [iw (by omega)]; omega
      have y2 : IntKind.wrap .i64 (X + 1) = X + 1 := iw (by omega)
      simp only [tI, y1, y2]
      have p1 : (2 : Int) ^ I = 2 * 2 ^ (I - 1) := by have := Z.p2_add (I - 1) 1; rw [show I - 1 + 1 = I by omega] at this; omega
      have p2 := Z.p2_30 (I - 1) (by omega)
      -- a full carry
      have CA : M = 2 ^ I ∨ M = -(2 ^ I) → (bif X == (F : Int) then k (Z.bey (ovn o) false I F (decide (n < 0))).1 (Z.bey (ovn o) false I F (decide (n < 0))).2 else s2_scaled (IntKind.wrap .i64 (Int.tdiv M 2)) (X + 1) (fun a b => k a b)) = k (if X = F ∧ (M = 2 ^ I ∨ M = -(2 ^ I)) then Z.bey (ovn o) false I F (decide (n < 0)) else Z.pw M X).1 (if X = F ∧ (M = 2 ^ I ∨ M = -(2 ^ I)) then Z.bey (ovn o) false I F (decide (n < 0)) else Z.pw M X).2 := by
        intro hM
        by_cases hx : X = F
        · rw [beq_iff_eq.2 hx, ct, if_pos ⟨hx, hM⟩]
        · obtain ⟨a, ha, hb⟩ : ∃ a : Int, M = 2 * a ∧ (-(2 ^ (I - 1)) ≤ a ∧ a ≤ 2 ^ (I - 1)) := by
            rcases hM with hM | hM
            · exact ⟨2 ^ (I - 1), by omega, by omega⟩
            · exact ⟨-(2 ^ (I - 1)), by omega, by omega⟩
          have ht : Int.tdiv M 2 = a := by rw [ha]; exact Int.mul_tdiv_cancel_left a (by decide)
          have hf2 := flo_pw (I := I) (F := F) (M := a) (X := X + 1) h (by omega) (by omega)
          rw [beq_eq_false_iff_ne.2 hx, cf, ht, iw (by omega), scaled_eq (by omega) hf2, if_neg (fun hc => hx hc.1), ha, Z.pw_carry]
      by_cases h1 : M = 2 ^ I
      · rw [beq_iff_eq.2 h1, Bool.not_true, cf]
        rw [← h1] at CA ⊢
        exact CA (.inl rfl)
      · rw [beq_eq_false_iff_ne.2 h1, Bool.not_false, ct]
        by_cases h2 : M = -(2 ^ I)
        · rw [beq_iff_eq.2 h2, ct]
          exact CA (.inr h2)
        · rw [beq_eq_false_iff_ne.2 h2, cf, scaled_eq (by omega) hf, if_neg (fun hc => by rcases hc.2 with hc | hc; exact h1 hc; exact h2 hc)]
theorem sFit_eq (k0 r o : ByteArray) (I F n d : Int) (k : Int → Int → Option DV) : s2_Fit k0 I F r o n d k = k (Z.fitQ k0 r o I F n d).1 (Z.fitQ k0 r o I F n d).2 := by
  unfold s2_Fit B_s2_Fit s1_Is s1_None Z.fitQ
  rw [rvalid_eq]
  dsimp only
  cases hv : Z.vld k0 r o I F
  · rw [Bool.not_false, Bool.not_true, cf, Bool.and_false, if_neg (by decide)]
  · rw [Bool.not_true, Bool.not_false, ct]
    cases hq : Q.isq n d
    · rw [Bool.not_false, ct, Bool.false_and, if_neg (by decide)]
    · rw [Bool.not_true, cf, Bool.true_and, if_pos rfl]
      obtain ⟨m, i, f, hm, hm2, hr, rfl, rfl, hs⟩ := vld_open hv
      obtain ⟨v1, v2, v3⟩ := hov_open hv
      have hb := of_decide_eq_true (show decide _ = true from hq)
      have vp := (vld_parts hv).2.2.2.2.2
      unfold s2_wide B_s2_wide s2_fit B_s2_fit Z.fitV
      rw [← hm, hr, ← rnmR_eq hm2, Int.toNat_natCast, Int.toNat_natCast]
      simp only [tl]
      cases hk : (k0.toList == [102, 105, 120])
      · have := vp hk
        rw [cf, if_neg (by decide), sfloat_eq hm2 hs (by omega) (by omega) (by omega) (by omega) (v3 hk) v2]
      · rw [ct, if_pos rfl, sfix_eq hm2 hs (by omega) (by omega) v1 v2]
end Y
end Go.Proofs.YtiiddikiaafanaaGreatDoor
