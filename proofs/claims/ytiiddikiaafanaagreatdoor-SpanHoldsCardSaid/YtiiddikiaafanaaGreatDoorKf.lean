import Derived.Test.YtiiddikiaafanaaGreatDoorKb
import Derived.Test.YtiiddikiaafanaaGreatDoorYj
set_option linter.all false
/-
  What a format tells of a span holds what comes of its numbers.
-/
namespace Go.Proofs.YtiiddikiaafanaaGreatDoor
open Go.Pv Go.RowKit
theorem mk_dvd {N D : Int} (hD : 0 < D) (h : Q.isq (Q.mk N D).1 (Q.mk N D).2 = true) : (Q.mk N D).2 ∣ D := by
  obtain ⟨g, p, q, L⟩ := low_of N D hD
  rw [L.mkq hD] at h ⊢
  cases hh : Q.isq p q
  · rw [hh, if_neg (by decide)] at h; exact absurd h (by decide)
  · rw [if_pos rfl]; exact ⟨g, by rw [L.ed, Int.mul_comm]⟩
theorem fit_core {oo : Nat} {lo hi D : Int} (hD : 1 ≤ D ∧ D ≤ 1073741824) (hlh : -lo ≤ hi) {L G P R Y : Int × Int} {Wp Wx Wr : Int} {np nx nr no : Bool}
    (eL : L = Q.mk (-lo) D) (eG : G = Q.mk hi D) (cx : Z.Cl oo lo hi Wx D nx Y) (hx : -lo ≤ Wx ∧ Wx ≤ hi → Q.isq Y.1 Y.2 = true)
    (cp : Q.isq P.1 P.2 = true → Z.Cl oo lo hi Wp D np P ∧ Wp ≤ Wx) (cr : Q.isq R.1 R.2 = true → Z.Cl oo lo hi Wr D nr R ∧ Wx ≤ Wr)
    (hno : Q.isq P.1 P.2 = false ∨ Q.isq R.1 R.2 = false → oo = 2 → no = true) (hsat : oo ≠ 2 → Q.isq Y.1 Y.2 = true) :
    S.has ⟨(if Q.isq P.1 P.2 = true then P else L).1, (if Q.isq P.1 P.2 = true then P else L).2, (if Q.isq R.1 R.2 = true then R else G).1, (if Q.isq R.1 R.2 = true then R else G).2, D, no, false⟩ Y.1 Y.2 = true := by
  have inr : ∀ {W : Int} {n : Bool} {v : Int × Int}, Z.Cl oo lo hi W D n v → Q.isq v.1 v.2 = true → oo = 2 → -lo ≤ W ∧ W ≤ hi := fun c hv h2 => by
    apply Classical.byContradiction
    intro hc
    rw [c.e, if_neg hc, if_pos h2] at hv
    exact absurd hv (by decide)
  cases hy : Q.isq Y.1 Y.2
  · rw [S.has_none hy]
    show no = true
    have h2 : oo = 2 := by
      apply Classical.byContradiction
      intro hc; rw [hsat hc] at hy; cases hy
    cases hP : Q.isq P.1 P.2
    · exact hno (.inl hP) h2
    · cases hR : Q.isq R.1 R.2
      · exact hno (.inr hR) h2
      · exfalso
        obtain ⟨c1, w1⟩ := cp hP
        obtain ⟨c2, w2⟩ := cr hR
        have r1 := inr c1 hP h2
        have r2 := inr c2 hR h2
        rw [hx (by omega)] at hy; cases hy
  · have fy := Z.cl_form cx hlh hy
    have hy2 := hy
    rw [fy] at hy2
    rw [S.has_iff hy]
    refine ⟨rfl, fun hl => ?_, fun hg => ?_, ?_⟩
    · show (if Q.isq P.1 P.2 = true then P else L).1 * Y.2 ≤ Y.1 * (if Q.isq P.1 P.2 = true then P else L).2
      cases hP : Q.isq P.1 P.2
      · have hl' : Q.isq L.1 L.2 = true := by have := hl; simp only [hP, Bool.false_eq_true, if_false] at this; exact this
        simp only [Bool.false_eq_true, if_false]
        rw [eL] at hl' ⊢
        rw [fy]
        exact Z.mk_le (by omega) hl' hy2 (by split; omega; split <;> omega)
      · simp only [if_true]
        obtain ⟨c1, w1⟩ := cp hP
        exact Z.cl_mono c1 cx (by omega) hlh hP hy w1
    · show Y.1 * (if Q.isq R.1 R.2 = true then R else G).2 ≤ (if Q.isq R.1 R.2 = true then R else G).1 * Y.2
      cases hR : Q.isq R.1 R.2
      · have hg' : Q.isq G.1 G.2 = true := by have := hg; simp only [hR, Bool.false_eq_true, if_false] at this; exact this
        simp only [Bool.false_eq_true, if_false]
        rw [eG] at hg' ⊢
        rw [fy]
        exact Z.mk_le (by omega) hy2 hg' (by split; omega; split <;> omega)
      · simp only [if_true]
        obtain ⟨c1, w1⟩ := cr hR
        exact Z.cl_mono cx c1 (by omega) hlh hy hR w1
    · show Y.2 ∣ D
      rw [fy]
      exact mk_dvd (by omega) hy2
/-- A format that does not wrap: its clamping. -/
structure FC (kd r o : ByteArray) (I F : Int) (oo : Nat) (lo hi : Int) (W : Int → Int → Int) : Prop where
  le : -lo ≤ hi
  o2 : oo = 2 → (o.toList == [110, 111, 110, 101]) = true
  cl : ∀ n d, Q.isq n d = true → Z.Cl oo lo hi (W n d) (2 ^ F.toNat) (decide (n < 0)) (Z.fitQ kd r o I F n d)
  mono : ∀ n d n' d', Q.isq n d = true → Q.isq n' d' = true → n * d' ≤ n' * d → W n d ≤ W n' d'
  l : Z.lstQ kd r o I F = Q.mk (-lo) (2 ^ F.toNat)
  g : Z.grtQ kd r o I F = Q.mk hi (2 ^ F.toNat)
  inn : ∀ n d, Q.isq n d = true → -lo ≤ W n d ∧ W n d ≤ hi → Q.isq (Z.fitQ kd r o I F n d).1 (Z.fitQ kd r o I F n d).2 = true
theorem num_bd {n d : Int} (h : Q.isq n d = true) : (-2305843009213693952 ≤ n ∧ n ≤ 2305843009213693952) ∧ (1 ≤ d ∧ d ≤ 1152921504606846976) := by
  have := (Q.isq_iff _ _).1 h
  omega
theorem ovn_2 {o : ByteArray} (h : ovn o = 2) : (o.toList == [110, 111, 110, 101]) = true := by
  unfold ovn at h
  cases hn : (o.toList == [110, 111, 110, 101])
  · rw [hn, if_neg (by decide)] at h
    split at h <;> omega
  · rfl
theorem fit_fc {kd r o : ByteArray} {I F : Int} (hv : Z.vld kd r o I F = true) (hw : (o.toList == [119, 114, 97, 112]) = false) : ∃ oo lo hi W, FC kd r o I F oo lo hi W := by
  obtain ⟨m, i, f, hm, hm2, hr, rfl, rfl, hs⟩ := vld_open hv
  have hp := pb_of hs
  have hh := hp.h; have hf := hp.f; have hi := hp.i
  have fq : ∀ n d, Q.isq n d = true → Z.fitQ kd r o i f n d = Z.fitV kd o m i f n d := fun n d hq => by
    unfold Z.fitQ; rw [hq, hv, hm]; rfl
  cases hk : (kd.toList == [102, 105, 120])
  · have vp := (vld_parts hv).2.2.2.2.2 hk
    have pT := Z.p2_pos (2 * f)
    have hT : 0 ≤ (2 ^ i - 1 : Int) * 2 ^ (2 * f) := Int.mul_nonneg (by omega) (by omega)
    have e2 : (2 : Int) ^ (2 * f) = 2 ^ f * 2 ^ f := by rw [show 2 * f = f + f by omega, Z.p2_add]
    have fe : ∀ n d, Z.fitV kd o m i f n d = Z.floatV (ovn o) m i f n d := fun n d => by unfold Z.fitV; rw [hk]; rfl
    refine ⟨ovn o, (2 ^ i - 1) * 2 ^ (2 * f), (2 ^ i - 1) * 2 ^ (2 * f), fun n d => Z.flW m i f n d, by omega, ovn_2, fun n d hq => ?_, fun n d n' d' hq hq' hl => ?_, ?_, ?_, fun n d hq hin => ?_⟩
    · have b := num_bd hq
      rw [fq n d hq, fe, Int.toNat_natCast]
      exact Z.float_cl hs (by omega) b.1 b.2
    · have b := num_bd hq
      have b' := num_bd hq'
      exact Z.flW_mono hs (by omega) b.1 b.2 b'.1 b'.2 hl
    · unfold Z.lstQ Z.lst; rw [hv, if_pos rfl, hk, if_neg (by decide), Int.toNat_natCast, Int.toNat_natCast]
      exact Z.mk_eq (by decide) (by omega) (by rw [Int.mul_one, Int.neg_mul, Int.mul_assoc, e2])
    · unfold Z.grtQ Z.grt; rw [hv, if_pos rfl, hk, if_neg (by decide), Int.toNat_natCast, Int.toNat_natCast]
      exact Z.mk_eq (by decide) (by omega) (by rw [Int.mul_one, Int.mul_assoc, e2])
    · have b := num_bd hq
      obtain ⟨s1, s2, s3, s4⟩ := Z.flx_spec i n d (2 * f + 1) (-(f : Int))
      have eT : (2 : Int) ^ (i + 2 * f) = (2 ^ i - 1) * 2 ^ (2 * f) + 2 ^ (2 * f) := by rw [Z.p2_add, Int.sub_mul]; omega
      rw [fq n d hq, fe]
      unfold Z.flW at hin
      have hX : ¬ Z.expo i f n d = f + 1 := by
        intro hX
        rw [if_pos hX] at hin
        split at hin <;> omega
      have hF : Z.expo i f n d ≤ f := by unfold Z.expo at *; omega
      rw [if_neg hX] at hin
      obtain ⟨a1, a2, a3, a4, a5⟩ := flo_at (m := m) hs (by omega) b.1 b.2 rfl hF
      have hpw := flo_pw hs hF ⟨a4, a5⟩
      unfold Z.floatV
      rw [if_neg hX]
      generalize Z.expo i f n d = X at *
      generalize Z.rndE m n d (-X) = M at *
      have hM : ¬ (X = f ∧ (M = 2 ^ i ∨ M = -(2 ^ i))) := by
        rintro ⟨rfl, hM⟩
        rw [show ((f : Int) + f).toNat = 2 * f by omega] at hin
        rcases hM with hM | hM
        · rw [hM, ← Z.p2_add] at hin; omega
        · rw [hM, Int.neg_mul, ← Z.p2_add] at hin; omega
      rw [if_neg hM]
      unfold Z.pw
      by_cases h0 : X < 0
      · have hj := Z.p2_30 (-X).toNat (by omega)
        rw [if_pos h0]
        exact Z.mk_num (by omega) hj
      · rw [if_neg h0]
        have h1 := Z.p2_pos X.toNat
        have h2 : (2 : Int) ^ X.toNat ≤ 2 ^ f := Z.p2_mono (by omega)
        have h3 : (2 : Int) ^ i * 2 ^ X.toNat ≤ 2 ^ i * 2 ^ f := Int.mul_le_mul_of_nonneg_left h2 (by omega)
        have h6 := Z.p2_add i f
        have h4 : M * 2 ^ X.toNat ≤ 2 ^ i * 2 ^ X.toNat := Int.mul_le_mul_of_nonneg_right a5 (by omega)
        have h5 : -(2 ^ i) * 2 ^ X.toNat ≤ M * 2 ^ X.toNat := Int.mul_le_mul_of_nonneg_right a4 (by omega)
        rw [Int.neg_mul] at h5
        exact Z.mk_num (by omega) (by decide)
  · have fe : ∀ n d, Z.fitV kd o m i f n d = Z.fixV (ovn o) m i f n d := fun n d => by unfold Z.fitV; rw [hk]; rfl
    refine ⟨ovn o, 2 ^ (i + f), 2 ^ (i + f) - 1, fun n d => Z.rnd m (n * 2 ^ f) d, by omega, ovn_2, fun n d hq => ?_, fun n d n' d' hq hq' hl => ?_, ?_, ?_, fun n d hq hin => ?_⟩
    · have b := num_bd hq
      rw [fq n d hq, fe, Int.toNat_natCast]
      exact Z.fix_cl (ov_not hw) (by omega) hs
    · have b := num_bd hq
      have b' := num_bd hq'
      refine Z.rnd_mono _ _ _ _ _ (by omega) (by omega) ?_
      rw [Int.mul_right_comm, Int.mul_right_comm n']
      exact Int.mul_le_mul_of_nonneg_right hl (by omega)
    · unfold Z.lstQ Z.lst; rw [hv, if_pos rfl, hk, if_pos rfl, Int.toNat_natCast, Int.toNat_natCast]
    · unfold Z.grtQ Z.grt; rw [hv, if_pos rfl, hk, if_pos rfl, Int.toNat_natCast, Int.toNat_natCast]
    · rw [fq n d hq, fe]
      unfold Z.fixV
      rw [if_neg (ov_not hw), if_pos (by omega)]
      exact Z.mk_num (by omega) (by omega)
end Go.Proofs.YtiiddikiaafanaaGreatDoor

/-
  What span.Fit tells holds what comes of the numbers.
-/
namespace Go.Proofs.YtiiddikiaafanaaGreatDoor
open Go.Pv Go.RowKit
theorem mk_cross {N D : Int} (hD : 0 < D) (h : Q.isq (Q.mk N D).1 (Q.mk N D).2 = true) : ∃ g : Int, 0 < g ∧ N = g * (Q.mk N D).1 ∧ D = g * (Q.mk N D).2 := by
  obtain ⟨g, p, q, L⟩ := low_of N D hD
  have hg := L.gp
  rw [L.mkq hD] at h ⊢
  cases hh : Q.isq p q
  · rw [hh, if_neg (by decide)] at h; exact absurd h (by decide)
  · rw [if_pos rfl]; exact ⟨g, by omega, L.en, L.ed⟩
theorem fc_sat {kd r o : ByteArray} {I F : Int} {oo : Nat} {lo hi : Int} {W : Int → Int → Int} (hv : Z.vld kd r o I F = true) (c : FC kd r o I F oo lo hi W) {n d : Int} (hq : Q.isq n d = true) (ho : oo ≠ 2) : Q.isq (Z.fitQ kd r o I F n d).1 (Z.fitQ kd r o I F n d).2 = true := by
  obtain ⟨hL, hG, -⟩ := fit_facts hv
  have cx := c.cl n d hq
  by_cases h1 : -lo ≤ W n d ∧ W n d ≤ hi
  · exact c.inn n d hq h1
  · rw [cx.e, if_neg h1, if_neg ho]
    split
    · rw [← c.l]; exact hL
    · rw [← c.g]; exact hG
/-- What is told where nothing wraps. -/
theorem plain_holds {kd r o : ByteArray} {I F : Int} (hv : Z.vld kd r o I F = true) (hw : (o.toList == [119, 114, 97, 112]) = false) {s : Sp} {a b : Int} (h : S.has s a b = true) {no : Bool} (hno : s.no = true → no = true)
    (hn : (o.toList == [110, 111, 110, 101]) = true → Q.isq (Z.fitQ kd r o I F s.ln s.ld).1 (Z.fitQ kd r o I F s.ln s.ld).2 = false ∨ Q.isq (Z.fitQ kd r o I F s.hn s.hd).1 (Z.fitQ kd r o I F s.hn s.hd).2 = false → no = true) :
    S.has ⟨(if Q.isq (Z.fitQ kd r o I F s.ln s.ld).1 (Z.fitQ kd r o I F s.ln s.ld).2 = true then Z.fitQ kd r o I F s.ln s.ld else Z.lstQ kd r o I F).1, (if Q.isq (Z.fitQ kd r o I F s.ln s.ld).1 (Z.fitQ kd r o I F s.ln s.ld).2 = true then Z.fitQ kd r o I F s.ln s.ld else Z.lstQ kd r o I F).2, (if Q.isq (Z.fitQ kd r o I F s.hn s.hd).1 (Z.fitQ kd r o I F s.hn s.hd).2 = true then Z.fitQ kd r o I F s.hn s.hd else Z.grtQ kd r o I F).1, (if Q.isq (Z.fitQ kd r o I F s.hn s.hd).1 (Z.fitQ kd r o I F s.hn s.hd).2 = true then Z.fitQ kd r o I F s.hn s.hd else Z.grtQ kd r o I F).2, 2 ^ F.toNat, no, false⟩ (Z.fitQ kd r o I F a b).1 (Z.fitQ kd r o I F a b).2 = true := by
  obtain ⟨hL, hG, hLG, hD, f0, f1, d0, d1⟩ := fit_facts hv
  cases hq : Q.isq a b
  · have e : Z.fitQ kd r o I F a b = (0, 0) := by unfold Z.fitQ; rw [hq]; rfl
    rw [e, S.has_none isq00]
    rw [S.has_none hq] at h
    exact hno h
  · obtain ⟨oo, lo, hi, W, c⟩ := fit_fc hv hw
    obtain ⟨-, h1, h2, -⟩ := (S.has_iff hq).1 h
    refine fit_core (Wp := W s.ln s.ld) (Wr := W s.hn s.hd) (np := decide (s.ln < 0)) (nr := decide (s.hn < 0)) ⟨d0, d1⟩ c.le c.l c.g (c.cl a b hq) (c.inn a b hq) (fun hP => ?_) (fun hR => ?_) (fun hpr h2 => hn (c.o2 h2) hpr) (fun ho => fc_sat hv c hq ho)
    · have hl := (Z.fit_parts hP).1
      exact ⟨c.cl _ _ hl, c.mono _ _ _ _ hl hq (h1 hl)⟩
    · have hl := (Z.fit_parts hR).1
      exact ⟨c.cl _ _ hl, c.mono _ _ _ _ hq hl (h2 hl)⟩
theorem fit_wrap_val {kd r o : ByteArray} {I F : Int} (hv : Z.vld kd r o I F = true) (hw : (o.toList == [119, 114, 97, 112]) = true) : ∃ (m i f : Nat), F = f ∧ i + f ≤ 30 ∧ Z.lstQ kd r o I F = Q.mk (-(2 ^ (i + f))) (2 ^ f) ∧ Z.grtQ kd r o I F = Q.mk (2 ^ (i + f) - 1) (2 ^ f) ∧
    ∀ n d, Q.isq n d = true → Z.fitQ kd r o I F n d = Q.mk ((Z.rnd m (n * 2 ^ f) d + 2 ^ (i + f)) % (2 * 2 ^ (i + f)) - 2 ^ (i + f)) (2 ^ f) := by
  obtain ⟨m, i, f, hm, hm2, hr, rfl, rfl, hs⟩ := vld_open hv
  have hk : (kd.toList == [102, 105, 120]) = true := by
    cases hk : (kd.toList == [102, 105, 120])
    · have := ((vld_parts hv).2.2.2.2.2 hk).2.2.2.2; rw [hw] at this; cases this
    · rfl
  refine ⟨m, i, f, rfl, hs, ?_, ?_, fun n d hq => ?_⟩
  · unfold Z.lstQ Z.lst; rw [hv, if_pos rfl, hk, if_pos rfl, Int.toNat_natCast, Int.toNat_natCast]
  · unfold Z.grtQ Z.grt; rw [hv, if_pos rfl, hk, if_pos rfl, Int.toNat_natCast, Int.toNat_natCast]
  · unfold Z.fitQ Z.fitV Z.fixV
    rw [hq, hv, ← hm, hk]
    simp only [Bool.and_self, if_true, Int.toNat_natCast]
    rw [if_pos (ov_wrap hw)]
/-- What is told where the values go around: all of them. -/
theorem around_holds {kd r o : ByteArray} {I F : Int} (hv : Z.vld kd r o I F = true) (hw : (o.toList == [119, 114, 97, 112]) = true) {s : Sp} {a b : Int} (h : S.has s a b = true) :
    S.has ⟨(Z.lstQ kd r o I F).1, (Z.lstQ kd r o I F).2, (Z.grtQ kd r o I F).1, (Z.grtQ kd r o I F).2, 2 ^ F.toNat, s.no, false⟩ (Z.fitQ kd r o I F a b).1 (Z.fitQ kd r o I F a b).2 = true := by
  obtain ⟨hL, hG, hLG, hD, f0, f1, d0, d1⟩ := fit_facts hv
  cases hq : Q.isq a b
  · have e : Z.fitQ kd r o I F a b = (0, 0) := by unfold Z.fitQ; rw [hq]; rfl
    rw [e, S.has_none isq00]
    rw [S.has_none hq] at h
    exact h
  · obtain ⟨m, i, f, rfl, hs, el, eg, ev⟩ := fit_wrap_val hv hw
    have hh := (pb_of hs).h
    have m1 := Int.emod_nonneg (Z.rnd m (a * 2 ^ f) b + 2 ^ (i + f)) (show (2 * 2 ^ (i + f) : Int) ≠ 0 by omega)
    have m2 := Int.emod_lt_of_pos (Z.rnd m (a * 2 ^ f) b + 2 ^ (i + f)) (show (0 : Int) < 2 * 2 ^ (i + f) by omega)
    have hy := fit_wrap hv hw hq
    have := fit_core (oo := 0) (P := (0, 0)) (R := (0, 0)) (Wp := 0) (Wr := 0) (np := false) (nx := false) (nr := false) (no := s.no) ⟨d0, d1⟩ (show -(2 ^ (i + f) : Int) ≤ 2 ^ (i + f) - 1 by omega) el eg (Y := Z.fitQ kd r o I f a b)
      (Wx := (Z.rnd m (a * 2 ^ f) b + 2 ^ (i + f)) % (2 * 2 ^ (i + f)) - 2 ^ (i + f)) ⟨by rw [ev a b hq, if_pos (by omega), Int.toNat_natCast], fun hc => by omega, fun hc => by omega⟩ (fun _ => hy) (fun hP => absurd hP (by decide)) (fun hR => absurd hR (by decide)) (fun _ h2 => absurd h2 (by decide)) (fun _ => hy)
    exact this
/-- What is told where the values would go around, but none is beyond the ends. -/
theorem within_holds {kd r o : ByteArray} {I F : Int} (hv : Z.vld kd r o I F = true) (hw : (o.toList == [119, 114, 97, 112]) = true) {s : Sp} {a b : Int} (h : S.has s a b = true) (ql : Q.isq s.ln s.ld = true) (qh : Q.isq s.hn s.hd = true)
    (hl : (Z.lstQ kd r o I F).1 * s.ld ≤ s.ln * (Z.lstQ kd r o I F).2) (hg : s.hn * (Z.grtQ kd r o I F).2 ≤ (Z.grtQ kd r o I F).1 * s.hd) :
    S.has ⟨(Z.fitQ kd r o I F s.ln s.ld).1, (Z.fitQ kd r o I F s.ln s.ld).2, (Z.fitQ kd r o I F s.hn s.hd).1, (Z.fitQ kd r o I F s.hn s.hd).2, 2 ^ F.toNat, s.no, false⟩ (Z.fitQ kd r o I F a b).1 (Z.fitQ kd r o I F a b).2 = true := by
  obtain ⟨hL, hG, hLG, hD, f0, f1, d0, d1⟩ := fit_facts hv
  cases hq : Q.isq a b
  · have e : Z.fitQ kd r o I F a b = (0, 0) := by unfold Z.fitQ; rw [hq]; rfl
    rw [e, S.has_none isq00]
    rw [S.has_none hq] at h
    exact h
  · obtain ⟨-, h1, h2, -⟩ := (S.has_iff hq).1 h
    have h1 := h1 ql
    have h2 := h2 qh
    obtain ⟨m, i, f, rfl, hs, el, eg, ev⟩ := fit_wrap_val hv hw
    have hh := (pb_of hs).h
    have hf := (pb_of hs).f
    have bl := num_bd ql
    have bh := num_bd qh
    have bx := num_bd hq
    have hy := fit_wrap hv hw hq
    have hP := fit_wrap hv hw ql
    have hR := fit_wrap hv hw qh
    rw [el] at hl hL
    rw [eg] at hg hG
    obtain ⟨g, g0, g1, g2⟩ := mk_cross (by omega) hL
    obtain ⟨g', g0', g1', g2'⟩ := mk_cross (by omega) hG
    -- the ends, in steps
    have wl : -(2 ^ (i + f)) ≤ Z.rnd m (s.ln * 2 ^ f) s.ld := by
      refine Z.rnd_ge m _ _ _ (by omega) ?_
      have h3 := Int.mul_le_mul_of_nonneg_left hl (Int.le_of_lt g0)
      rw [← Int.mul_assoc, ← g1, Int.mul_left_comm, ← g2] at h3
      exact h3
    have wh : Z.rnd m (s.hn * 2 ^ f) s.hd ≤ 2 ^ (i + f) - 1 := by
      refine Z.rnd_le m _ _ _ (by omega) ?_
      have h3 := Int.mul_le_mul_of_nonneg_left hg (Int.le_of_lt g0')
      rw [Int.mul_left_comm, ← g2', ← Int.mul_assoc, ← g1'] at h3
      exact h3
    have mono : ∀ n d n' d', Q.isq n d = true → Q.isq n' d' = true → n * d' ≤ n' * d → Z.rnd m (n * 2 ^ f) d ≤ Z.rnd m (n' * 2 ^ f) d' := fun n d n' d' hq hq' hl => by
      have b := num_bd hq
      have b' := num_bd hq'
      refine Z.rnd_mono _ _ _ _ _ (by omega) (by omega) ?_
      rw [Int.mul_right_comm, Int.mul_right_comm n']
      exact Int.mul_le_mul_of_nonneg_right hl (by omega)
    have w1 := mono _ _ _ _ ql hq h1
    have w2 := mono _ _ _ _ hq qh h2
    have cl : ∀ n d, Q.isq n d = true → -(2 ^ (i + f)) ≤ Z.rnd m (n * 2 ^ f) d ∧ Z.rnd m (n * 2 ^ f) d ≤ 2 ^ (i + f) - 1 → Z.Cl 0 (2 ^ (i + f)) (2 ^ (i + f) - 1) (Z.rnd m (n * 2 ^ f) d) (2 ^ (f : Int).toNat) false (Z.fitQ kd r o I f n d) := fun n d hq hin =>
      ⟨by rw [ev n d hq, if_pos hin, Int.emod_eq_of_lt (by omega) (by omega), Int.add_sub_cancel, Int.toNat_natCast], fun hc => by omega, fun hc => by omega⟩
    have := fit_core (oo := 0) (no := s.no) ⟨d0, d1⟩ (show -(2 ^ (i + f) : Int) ≤ 2 ^ (i + f) - 1 by omega) el eg (cl a b hq (by omega)) (fun _ => hy) (fun _ => ⟨cl _ _ ql (by omega), w1⟩) (fun _ => ⟨cl _ _ qh (by omega), w2⟩) (fun _ h2 => absurd h2 (by decide)) (fun _ => hy)
    rw [if_pos hP, if_pos hR] at this
    exact this
end Go.Proofs.YtiiddikiaafanaaGreatDoor

/-
  span.Fit's answer holds what comes of the numbers.
-/
namespace Go.Proofs.YtiiddikiaafanaaGreatDoor
open Go.Pv Go.RowKit
theorem cmp_ge {p q : Int × Int} (hp : Q.isq p.1 p.2 = true) (hq : Q.isq q.1 q.2 = true) (h : decide (Q.cmp p q < 0) = false) : q.1 * p.2 ≤ p.1 * q.2 := by
  have h := of_decide_eq_false h
  unfold Q.cmp Q.both at h
  rw [hp, hq] at h
  simp only [Bool.and_self, if_true] at h
  unfold Q.cmpi at h
  split at h
  · omega
  · omega
theorem hold_fit (kd r o : ByteArray) (I F : Int) {s : Sp} {a b : Int} (h : S.has (S.known s) a b = true) :
    ∃ R : Sp, (∀ k, span_Fit kd I F r o s.ln s.ld s.hn s.hd s.den s.no s.em k = R.ap k) ∧ S.has R (Z.fitQ kd r o I F a b).1 (Z.fitQ kd r o I F a b).2 = true := by
  unfold span_Fit B_span_Fit
  simp only [Y.qvalid_eq, known_eq]
  rw [show (⟨s.ln, s.ld, s.hn, s.hd, s.den, s.no, s.em⟩ : Sp) = s from rfl]
  have hk := S.known_ok s
  generalize S.known s = t at *
  cases hv : Z.vld kd r o I F
  · refine ⟨⟨0, 0, 0, 0, 0, true, true⟩, fun k => by rw [Bool.not_false, cT]; exact nothing_eq true k, ?_⟩
    have e : Z.fitQ kd r o I F a b = (0, 0) := by unfold Z.fitQ; rw [hv, Bool.and_false]; rfl
    rw [e, S.has_none isq00]
  cases he : t.em
  rotate_left
  · refine ⟨t, fun k => by rw [Bool.not_true, cF]; unfold Sp.ap; simp only [he, cT], ?_⟩
    obtain ⟨e1, e2⟩ := em_none he h
    have e : Z.fitQ kd r o I F a b = (0, 0) := by unfold Z.fitQ; rw [e1]; rfl
    rw [e, S.has_none isq00]; exact e2
  obtain ⟨hL, hG, hLG, hD, f0, f1, d0, d1⟩ := fit_facts hv
  have hden : S.isden ((2 : Int) ^ F.toNat) = true := by unfold S.isden; rw [decide_eq_true (by omega), decide_eq_true (by omega)]; rfl
  have hP := @fit_valid kd r o I F t.ln t.ld
  have hR := @fit_valid kd r o I F t.hn t.hd
  have hmk : S.make (Z.lstQ kd r o I F).1 (Z.lstQ kd r o I F).2 (Z.grtQ kd r o I F).1 (Z.grtQ kd r o I F).2 (2 ^ F.toNat) = ⟨(Z.lstQ kd r o I F).1, (Z.lstQ kd r o I F).2, (Z.grtQ kd r o I F).1, (Z.grtQ kd r o I F).2, 2 ^ F.toNat, false, false⟩ := by
    unfold S.make Q.clean
    simp only [hLG, hL, hG, hden, if_true, Bool.false_eq_true, if_false]
  simp only [Sp.ap, he, Bool.not_true, cF, Y.qFit_eq, Y.least_eq, Y.greatest_eq, Y.step_eq, hD, make_eq, hmk, isopen_eq hP, isopen_eq hR, among_eq hL hG hk.hi, Bool.not_not, Y.tl]
  cases hw : (o.toList == [119, 114, 97, 112])
  · refine ⟨_, fun k => ?_, plain_holds hv hw h (no := t.no || ((o.toList == [110, 111, 110, 101]) && !(Q.isq (Z.fitQ kd r o I F t.ln t.ld).1 (Z.fitQ kd r o I F t.ln t.ld).2 && Q.isq (Z.fitQ kd r o I F t.hn t.hd).1 (Z.fitQ kd r o I F t.hn t.hd).2))) (fun h => by rw [h]; rfl) (fun h1 h2 => by rw [h1]; rcases h2 with h2 | h2 <;> rw [h2] <;> simp)⟩
    cases Q.isq (Z.fitQ kd r o I F t.ln t.ld).1 (Z.fitQ kd r o I F t.ln t.ld).2 <;> cases Q.isq (Z.fitQ kd r o I F t.hn t.hd).1 (Z.fitQ kd r o I F t.hn t.hd).2 <;> cases t.no <;> cases (o.toList == [110, 111, 110, 101]) <;> rfl
  · have hn := lit_ne hw (b := [110, 111, 110, 101]) (by decide)
    cases hA : (!decide (Q.cmp (t.ln, t.ld) ((Z.lstQ kd r o I F).1, (Z.lstQ kd r o I F).2) < 0) && (Q.isq t.hn t.hd && !decide (Q.cmp (t.hn, t.hd) ((Z.grtQ kd r o I F).1, (Z.grtQ kd r o I F).2) > 0)))
    · refine ⟨_, fun k => ?_, around_holds hv hw h⟩
      simp only [hn, cF, cT, Bool.not_false]
      cases t.no <;> rfl
    · simp only [Bool.and_eq_true, Bool.not_eq_true'] at hA
      obtain ⟨g1, qh, g2⟩ := hA
      have ql : Q.isq t.ln t.ld = true := by
        cases hq : Q.isq t.ln t.ld
        · rw [cmp_less hq hL] at g1; cases g1
        · rfl
      have pP := fit_wrap (n := t.ln) (d := t.ld) hv hw ql
      have pR := fit_wrap (n := t.hn) (d := t.hd) hv hw qh
      refine ⟨_, fun k => ?_, within_holds hv hw h ql qh (cmp_ge (p := (t.ln, t.ld)) (q := Z.lstQ kd r o I F) ql hL g1) ((Z.cmp_le (a := (t.hn, t.hd)) (b := Z.grtQ kd r o I F) qh hG).1 (of_decide_eq_false g2))⟩
      simp only [hn, pP, pR, cF, cT, Bool.not_true]
      cases t.no <;> rfl
end Go.Proofs.YtiiddikiaafanaaGreatDoor

/-
  pick; every name of an operation; one round of the law.
-/
namespace Go.Proofs.YtiiddikiaafanaaGreatDoor
open Go.Pv Go.RowKit
theorem told_pick {s t u : Sp} (hs : S.Ok s) (ks : S.known s = s) (kt : S.known t = t) (ku : S.known u = u) (k : Int → Int → Int → Int → Int → Bool → Bool → Option DV) :
    span_pick s.ln s.ld s.hn s.hd s.den s.no s.em t.ln t.ld t.hn t.hd t.den t.no t.em u.ln u.ld u.hn u.hd u.den u.no u.em k = (S.pick s t u).ap k := by
  unfold span_pick B_span_pick
  simp only [zero_eq, has_eq, iszero_eq hs, join_eq]
  rw [show (⟨s.ln, s.ld, s.hn, s.hd, s.den, s.no, s.em⟩ : Sp) = s from rfl, show (⟨t.ln, t.ld, t.hn, t.hd, t.den, t.no, t.em⟩ : Sp) = t from rfl, show (⟨u.ln, u.ld, u.hn, u.hd, u.den, u.no, u.em⟩ : Sp) = u from rfl]
  simp only [ks, kt, ku]
  unfold S.pick S.orn Sp.ap
  cases he : s.em
  · cases S.has s 0 1
    · cases h : u.no <;> simp [h]
    · cases S.iszero s
      · cases h : (S.join t u).no <;> simp [h]
      · cases h : t.no <;> simp [h]
  · simp [he]
end Go.Proofs.YtiiddikiaafanaaGreatDoor
