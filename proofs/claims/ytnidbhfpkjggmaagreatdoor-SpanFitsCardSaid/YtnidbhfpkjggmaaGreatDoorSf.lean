import Derived.Test.YtnidbhfpkjggmaaGreatDoorPf
import Derived.Test.YtnidbhfpkjggmaaGreatDoorSt
set_option linter.all false
/-
  What a format tells of a span: both sides tell the same; the law's reading is true.
-/
namespace Go.Proofs.YtnidbhfpkjggmaaGreatDoor
open Go.Pv Go.RowKit

theorem cmp_less {a b c d : Int} (h : Q.isq a b = false) (h2 : Q.isq c d = true) : decide (Q.cmp (a, b) (c, d) < 0) = true := by
  unfold Q.cmp Q.both Q.rank Q.cmpi
  simp [h, h2]
theorem fit_facts {kd r o : ByteArray} {I F : Int} (h : Z.vld kd r o I F = true) :
    Q.isq (Z.lstQ kd r o I F).1 (Z.lstQ kd r o I F).2 = true ∧ Q.isq (Z.grtQ kd r o I F).1 (Z.grtQ kd r o I F).2 = true ∧ S.ooo (Z.lstQ kd r o I F).1 (Z.lstQ kd r o I F).2 (Z.grtQ kd r o I F).1 (Z.grtQ kd r o I F).2 = false ∧
    (Z.stpQ kd r o I F).2 = 2 ^ F.toNat ∧ 0 ≤ F ∧ F ≤ 30 ∧ (1 : Int) ≤ 2 ^ F.toNat ∧ (2 : Int) ^ F.toNat ≤ 1073741824 := by
  obtain ⟨m, i, f, hm, hm2, hr, rfl, rfl, hs⟩ := vld_open h
  have hp := pb_of hs
  have top := top_bd hs
  have h1 := hp.h
  have h2 := hp.f
  unfold Z.lstQ Z.grtQ Z.stpQ Z.lst Z.grt
  simp only [if_pos h, show ((i : Int)).toNat = i by omega, show ((f : Int)).toNat = f by omega]
  have hstep : (Q.mk 1 (2 ^ f)).2 = 2 ^ f := by
    have hq : Q.isq (1 : Int) ((2 : Int) ^ f) = true := (Q.isq_iff _ _).2 ⟨by omega, by omega, h2.1, h2.2, by simp⟩
    have := Q.mk_id (a := (1, 2 ^ f)) hq
    exact congrArg Prod.snd this
  refine ⟨?_, ?_, ?_, hstep, by omega, by omega, h2.1, h2.2⟩
  · split
    · exact Z.mk_num (by omega) h2
    · exact Z.mk_num (by omega) (by omega)
  · split
    · exact Z.mk_num (by omega) h2
    · exact Z.mk_num (by omega) (by omega)
  · unfold S.ooo
    split
    · have a := Z.mk_num (n := -(2 ^ (i + f))) (d := 2 ^ f) (by omega) h2
      have b := Z.mk_num (n := 2 ^ (i + f) - 1) (d := 2 ^ f) (by omega) h2
      have c := (Z.cmp_le a b).2 (Z.mk_le (by omega) a b (by omega))
      rw [decide_eq_false c, Bool.and_false]
    · have a := Z.mk_num (n := -((2 ^ i - 1) * 2 ^ f)) (d := 1) (by omega) (by omega)
      have b := Z.mk_num (n := (2 ^ i - 1) * 2 ^ f) (d := 1) (by omega) (by omega)
      have c := (Z.cmp_le a b).2 (Z.mk_le (by omega) a b (by omega))
      rw [decide_eq_false c, Bool.and_false]
theorem fit_wrap {kd r o : ByteArray} {I F n d : Int} (hv : Z.vld kd r o I F = true) (hw : (o.toList == [119, 114, 97, 112]) = true) (hq : Q.isq n d = true) :
    Q.isq (Z.fitQ kd r o I F n d).1 (Z.fitQ kd r o I F n d).2 = true := by
  have hk : (kd.toList == [102, 105, 120]) = true := by
    have h := hv
    unfold Z.vld Z.hov at h
    rw [lit_ne hw (b := [115, 97, 116]) (by decide), lit_ne hw (b := [110, 111, 110, 101]) (by decide), hw] at h
    simp only [Bool.and_eq_true, Bool.false_or, Bool.true_and] at h
    exact h.2
  have e : Z.fitQ kd r o I F n d = Z.fitV kd o (Z.rdm r) I.toNat F.toNat n d := by unfold Z.fitQ; rw [if_pos (by rw [hq, hv]; rfl)]
  rw [e]
  obtain ⟨m, i, f, hm, hm2, hr, rfl, rfl, hs⟩ := vld_open hv
  have hp := pb_of hs
  have h1 := hp.h
  simp only [show ((i : Int)).toNat = i by omega, show ((f : Int)).toNat = f by omega]
  unfold Z.fitV
  rw [if_pos hk, ov_wrap hw]
  unfold Z.fixV
  rw [if_pos rfl]
  refine Z.mk_num ?_ hp.f
  generalize (2 : Int) ^ (i + f) = H at *
  generalize Z.rnd _ _ _ + H = x
  have g1 := Int.emod_nonneg x (show 2 * H ≠ 0 by omega)
  have g2 := Int.emod_lt_of_pos x (show 0 < 2 * H by omega)
  omega
theorem fit_valid {kd r o : ByteArray} {I F n d : Int} : Q.valid ((Z.fitQ kd r o I F n d).1, (Z.fitQ kd r o I F n d).2) = true := by
  rcases fitQ_num (k := kd) (r := r) (o := o) (I := I) (F := F) (n := n) (d := d) with h | h
  · rw [h]; rfl
  · unfold Q.valid; simp only [h, Bool.or_true]
theorem two_eq {F : Int} (h : 0 ≤ F) (h2 : F ≤ 30) (k : Int → Option DV) : serinetteref02_Two F k = k (2 ^ F.toNat) := by
  obtain ⟨f, rfl⟩ := Int.eq_ofNat_of_zero_le h
  have hb : IntKind.bits .i64 = 64 := rfl
  have hp := Z.p2_30 f (by omega)
  unfold serinetteref02_Two B_serinetteref02_Two
  rw [decide_eq_false (by omega), cond_false, show ((f : Int)).toNat = f by omega, hb, Nat.min_eq_left (by omega), Int.one_mul]
  congr 1
  unfold IntKind.wrap
  rw [show IntKind.i64.bits = 64 from rfl]
  simp
  omega
theorem isopen_eq {a b : Int} (h : Q.valid (a, b) = true) (k : Bool → Option DV) : span_isOpen a b k = k (!Q.isq a b) := by
  unfold span_isOpen B_span_isOpen
  rw [open_eq h]
theorem valid_of {a b : Int} (h : Q.isq a b = true) : Q.valid (a, b) = true := by unfold Q.valid; simp only [h, Bool.or_true]
theorem among_eq {a b c d L1 L2 G1 G2 n : Int} {x y : Bool} (hL : Q.isq L1 L2 = true) (hG : Q.isq G1 G2 = true) (hc : Q.valid (c, d) = true) (k : Bool → Option DV) :
    span_isAmong a b c d L1 L2 G1 G2 n x y k = k (!decide (Q.cmp (a, b) (L1, L2) < 0) && (Q.isq c d && !decide (Q.cmp (c, d) (G1, G2) > 0))) := by
  unfold span_isAmong B_span_isAmong ratio_Cmp
  simp only [isopen_eq (valid_of hL), isopen_eq (valid_of hG), isopen_eq hc, hL, hG, ge_not, le_not]
  cases decide (Q.cmp (a, b) (L1, L2) < 0) <;> cases Q.isq c d <;> rfl
theorem cmp_turn {p q : Int × Int} (hp : Q.isq p.1 p.2 = true) (hq : Q.isq q.1 q.2 = true) : (decide (Q.cmp p q < 0) || (Q.cmp p q == 0)) = !decide (Q.cmp p q > 0) ∧ decide (Q.cmp q p < 0) = decide (Q.cmp p q > 0) := by
  unfold Q.cmp Q.both Q.cmpi
  simp only [hp, hq, Bool.and_self, if_true]
  generalize p.1 * q.2 = x
  generalize q.1 * p.2 = y
  by_cases h1 : x < y
  · have h2 : ¬ y < x := by omega
    simp [h1, h2]
  · by_cases h2 : y < x
    · simp [h1, h2]
    · simp [h1, h2]
theorem less_low {a b L1 L2 : Int} (hL : Q.isq L1 L2 = true) (k : Bool → Option DV) : serinetteref03_less L1 L2 a b true k = k (!decide (Q.cmp (a, b) (L1, L2) < 0)) := by
  unfold serinetteref03_less B_serinetteref03_less serinetteref01_Is serinetteref01_Cmp
  simp only [hL, cond_true]
  cases ha : Q.isq a b
  · rw [cmp_less ha hL]; rfl
  · obtain ⟨t1, t2⟩ := cmp_turn (p := (L1, L2)) (q := (a, b)) hL ha
    rw [t2, ← t1]
    cases decide (Q.cmp (L1, L2) (a, b) < 0) <;> simp
theorem less_high {a b G1 G2 : Int} (hG : Q.isq G1 G2 = true) (k : Bool → Option DV) : serinetteref03_less a b G1 G2 true k = k (Q.isq a b && !decide (Q.cmp (a, b) (G1, G2) > 0)) := by
  unfold serinetteref03_less B_serinetteref03_less serinetteref01_Is serinetteref01_Cmp
  simp only [hG]
  cases ha : Q.isq a b
  · rfl
  · obtain ⟨t1, t2⟩ := cmp_turn (p := (a, b)) (q := (G1, G2)) ha hG
    rw [← t1]
    cases decide (Q.cmp (a, b) (G1, G2) < 0) <;> simp
/-- Both tell the same. -/
theorem fit_both (kd r o : ByteArray) (I F : Int) (hI : -9223372036854775808 ≤ I ∧ I ≤ 9223372036854775807) (hF : -9223372036854775808 ≤ F ∧ F ≤ 9223372036854775807) (a b c d n : Int) (x e : Bool) :
    ∃ v : Sp, (∀ k, span_Fit kd I F r o a b c d n x e k = v.ap k) ∧ (∀ k, serinetteref03_Fit kd I F r o a b c d n x e k = v.ap k) := by
  unfold span_Fit B_span_Fit serinetteref03_Fit B_serinetteref03_Fit quant_Valid quant_Fit quant_Least quant_Greatest quant_Step serinetteref02_Valid serinetteref02_Fit serinetteref02_Least serinetteref02_Greatest span_nothing B_span_nothing serinetteref03_Empty B_serinetteref03_Empty serinetteref01_Is
  simp only [decide_eq_true (And.intro hI hF), cond_true, known_eq, rknown_eq, Sp.ap]
  have hk := S.known_ok ⟨a, b, c, d, n, x, e⟩
  generalize S.known ⟨a, b, c, d, n, x, e⟩ = s at *
  cases hv : Z.vld kd r o I F
  · simp only [Bool.not_false, cond_true]
    exact ⟨⟨_, _, _, _, _, _, _⟩, fun k => rfl, fun k => rfl⟩
  · cases he : s.em
    · obtain ⟨hL, hG, hLG, hD, f0, f1, d0, d1⟩ := fit_facts hv
      have hden : S.isden ((2 : Int) ^ F.toNat) = true := by unfold S.isden; rw [decide_eq_true (by omega), decide_eq_true (by omega)]; rfl
      have hP := @fit_valid kd r o I F s.ln s.ld
      have hR := @fit_valid kd r o I F s.hn s.hd
      have hmk : S.make (Z.lstQ kd r o I F).1 (Z.lstQ kd r o I F).2 (Z.grtQ kd r o I F).1 (Z.grtQ kd r o I F).2 (2 ^ F.toNat) = ⟨(Z.lstQ kd r o I F).1, (Z.lstQ kd r o I F).2, (Z.grtQ kd r o I F).1, (Z.grtQ kd r o I F).2, 2 ^ F.toNat, false, false⟩ := by
        unfold S.make Q.clean
        simp only [hLG, hL, hG, hden, if_true, Bool.false_eq_true, if_false]
      simp only [hD, make_eq, hmk, Sp.ap, two_eq f0 f1, isopen_eq hP, isopen_eq hR, among_eq hL hG hk.hi, less_low hL, less_high hG, Bool.not_true, Bool.not_not, cond_false]
      have w0 : ByteArray.toList (⟨#[119, 114, 97, 112]⟩ : ByteArray) = [119, 114, 97, 112] := by rw [ByteArray.toList_eq]
      have n0 : ByteArray.toList (⟨#[110, 111, 110, 101]⟩ : ByteArray) = [110, 111, 110, 101] := by rw [ByteArray.toList_eq]
      simp only [w0, n0]
      cases hw : (o.toList == [119, 114, 97, 112])
      · cases hn : (o.toList == [110, 111, 110, 101]) <;> cases s.no <;> cases Q.isq (Z.fitQ kd r o I F s.ln s.ld).1 (Z.fitQ kd r o I F s.ln s.ld).2 <;> cases Q.isq (Z.fitQ kd r o I F s.hn s.hd).1 (Z.fitQ kd r o I F s.hn s.hd).2 <;> exact ⟨⟨_, _, _, _, _, _, _⟩, fun k => rfl, fun k => rfl⟩
      · have hn := lit_ne hw (b := [110, 111, 110, 101]) (by decide)
        have hp1 : decide (Q.cmp (s.ln, s.ld) ((Z.lstQ kd r o I F).1, (Z.lstQ kd r o I F).2) < 0) = false → Q.isq (Z.fitQ kd r o I F s.ln s.ld).1 (Z.fitQ kd r o I F s.ln s.ld).2 = true := fun h => by
          cases hq : Q.isq s.ln s.ld
          · rw [cmp_less hq hL] at h; cases h
          · exact fit_wrap hv hw hq
        have hp2 : Q.isq s.hn s.hd = true → Q.isq (Z.fitQ kd r o I F s.hn s.hd).1 (Z.fitQ kd r o I F s.hn s.hd).2 = true := fit_wrap hv hw
        rw [hn]
        cases h1 : decide (Q.cmp (s.ln, s.ld) ((Z.lstQ kd r o I F).1, (Z.lstQ kd r o I F).2) < 0)
        · cases h2 : Q.isq s.hn s.hd
          · cases s.no <;> exact ⟨⟨_, _, _, _, _, _, _⟩, fun k => rfl, fun k => rfl⟩
          · rw [hp1 h1, hp2 h2]
            cases decide (Q.cmp (s.hn, s.hd) ((Z.grtQ kd r o I F).1, (Z.grtQ kd r o I F).2) > 0) <;> cases s.no <;> exact ⟨⟨_, _, _, _, _, _, _⟩, fun k => rfl, fun k => rfl⟩
        · cases s.no <;> exact ⟨⟨_, _, _, _, _, _, _⟩, fun k => rfl, fun k => rfl⟩
    · simp only [Bool.not_true, cond_false, cond_true]
      exact ⟨⟨s.ln, s.ld, s.hn, s.hd, s.den, s.no, true⟩, fun k => rfl, fun k => rfl⟩
/-- The law's reading is true. -/
theorem spanfits_true (kd r o : ByteArray) (I F : Int) (hI : -9223372036854775808 ≤ I ∧ I ≤ 9223372036854775807) (hF : -9223372036854775808 ≤ F ∧ F ≤ 9223372036854775807) (a b c d n : Int) (x e : Bool) (k : Bool → Option DV) : serinettelaw03_SpanFits kd I F r o a b c d n x e k = k true := by
  obtain ⟨v, h1, h2⟩ := fit_both kd r o I F hI hF a b c d n x e
  unfold serinettelaw03_SpanFits B_serinettelaw03_SpanFits
  simp only [h1, h2, Sp.ap, awake_true]
  simp
/-- The law answers true. -/
theorem spanfits_any (kd r o : ByteArray) (I F : Int) (hI : -9223372036854775808 ≤ I ∧ I ≤ 9223372036854775807) (hF : -9223372036854775808 ≤ F ∧ F ≤ 9223372036854775807) (a b c d n : Int) (x e : Bool) (w : World) (hI' : Inv w) :
    Calls Tryz.prog 6 #[.agg #[.string kd, .int .i64 I, .int .i64 F, .string r, .string o], .agg #[.int .i64 a, .int .i64 b, .int .i64 c, .int .i64 d, .int .i64 n, .bool x, .bool e]] w fun e w' => e = .returned (.bool true) ∧ Below w.heap.size w w' := by
  have h := m_serinettelaw03_SpanFits [.val (.agg ⟨[.string kd, .int .i64 I, .int .i64 F, .string r, .string o]⟩), .val (.agg ⟨[.int .i64 a, .int .i64 b, .int .i64 c, .int .i64 d, .int .i64 n, .bool x, .bool e]⟩)] some (.val (.bool true))
    (spanfits_true kd r o I F hI hF a b c d n x e _)
  obtain ⟨_, x, hx, _, hc⟩ := h
  cases hx
  refine (hc (fun _ => False) w _ hI' (fun _ h => h.elim) rfl ?_).mono fun e w' ⟨v, he, hb, hr⟩ => ⟨by rw [he, val_eq hr], hb⟩
  intro i x v h1 h2
  match i with
  | 0 => simp at h1 h2; subst h1; subst h2; exact .val _
  | 1 => simp at h1 h2; subst h1; subst h2; exact .val _
  | i + 2 => simp at h1
end Go.Proofs.YtnidbhfpkjggmaaGreatDoor
