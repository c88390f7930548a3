/-
  FormatParses: the specification's search; the law.
-/
import Derived.Test.YtpdklolfkigefaaDoorPm
set_option linter.all false
namespace Go.Proofs.YtpdklolfkigefaaDoor
open Go.Pv Go.RowKit

def chK (c : Nat) : ByteArray := if c % 2 = 1 then ⟨#[102, 108, 111, 97, 116]⟩ else ⟨#[102, 105, 120]⟩
def chR (c : Nat) : ByteArray := if c / 2 % 3 = 1 then ⟨#[110, 101, 97, 114]⟩ else if c / 2 % 3 = 2 then ⟨#[122, 101, 114, 111]⟩ else ⟨#[102, 108, 111, 111, 114]⟩
def chO (c : Nat) : ByteArray := if c / 6 = 1 then ⟨#[119, 114, 97, 112]⟩ else if c / 6 = 2 then ⟨#[110, 111, 110, 101]⟩ else ⟨#[115, 97, 116]⟩
theorem choice_eq (i f : Int) (c : Nat) (h : c < 18) (K : ByteArray → Int → Int → ByteArray → ByteArray → Option DV) : serinetteref02_choice i f c K = K (chK c) i f (chR c) (chO c) := by
  have : c = 0 ∨ c = 1 ∨ c = 2 ∨ c = 3 ∨ c = 4 ∨ c = 5 ∨ c = 6 ∨ c = 7 ∨ c = 8 ∨ c = 9 ∨ c = 10 ∨ c = 11 ∨ c = 12 ∨ c = 13 ∨ c = 14 ∨ c = 15 ∨ c = 16 ∨ c = 17 := by omega
  rcases this with rfl | rfl | rfl | rfl | rfl | rfl | rfl | rfl | rfl | rfl | rfl | rfl | rfl | rfl | rfl | rfl | rfl | rfl <;> rfl
theorem choice_full {k r o : ByteArray} (hk : k = ⟨#[102, 105, 120]⟩ ∨ k = ⟨#[102, 108, 111, 97, 116]⟩) (hr : r = ⟨#[102, 108, 111, 111, 114]⟩ ∨ r = ⟨#[110, 101, 97, 114]⟩ ∨ r = ⟨#[122, 101, 114, 111]⟩) (ho : o = ⟨#[115, 97, 116]⟩ ∨ o = ⟨#[119, 114, 97, 112]⟩ ∨ o = ⟨#[110, 111, 110, 101]⟩) : ∃ c, c < 18 ∧ chK c = k ∧ chR c = r ∧ chO c = o := by
  rcases hk with rfl | rfl <;> rcases hr with rfl | rfl | rfl <;> rcases ho with rfl | rfl | rfl
  · exact ⟨0, by decide, rfl, rfl, rfl⟩
  · exact ⟨6, by decide, rfl, rfl, rfl⟩
  · exact ⟨12, by decide, rfl, rfl, rfl⟩
  · exact ⟨2, by decide, rfl, rfl, rfl⟩
  · exact ⟨8, by decide, rfl, rfl, rfl⟩
  · exact ⟨14, by decide, rfl, rfl, rfl⟩
  · exact ⟨4, by decide, rfl, rfl, rfl⟩
  · exact ⟨10, by decide, rfl, rfl, rfl⟩
  · exact ⟨16, by decide, rfl, rfl, rfl⟩
  · exact ⟨1, by decide, rfl, rfl, rfl⟩
  · exact ⟨7, by decide, rfl, rfl, rfl⟩
  · exact ⟨13, by decide, rfl, rfl, rfl⟩
  · exact ⟨3, by decide, rfl, rfl, rfl⟩
  · exact ⟨9, by decide, rfl, rfl, rfl⟩
  · exact ⟨15, by decide, rfl, rfl, rfl⟩
  · exact ⟨5, by decide, rfl, rfl, rfl⟩
  · exact ⟨11, by decide, rfl, rfl, rfl⟩
  · exact ⟨17, by decide, rfl, rfl, rfl⟩
theorem vld_sizes {k r o : ByteArray} {i f : Nat} (h : Z.vld k r o i f = true) : i + f ≤ 30 ∧ k.size ≤ 5 ∧ r.size ≤ 5 ∧ o.size ≤ 4 := by
  obtain ⟨⟨i', f', h1, h2, hs⟩, hk, hr, ho⟩ := vld_fields h
  refine ⟨by omega, ?_, ?_, ?_⟩
  · rcases hk with rfl | rfl <;> decide
  · rcases hr with rfl | rfl | rfl <;> decide
  · rcases ho with rfl | rfl | rfl <;> decide
theorem itoa_eq {i : Nat} (h : i ≤ 30) (K : ByteArray → Option DV) : strconv_Itoa i K = K ⟨(Lib.decDigits i).toArray⟩ := by
  unfold strconv_Itoa
  rw [decT (by omega)]; simp
theorem i64max : IntKind.max .i64 = 9223372036854775807 := by decide
theorem rtext_val {k r o : ByteArray} {i f : Nat} (h : Z.vld k r o i f = true) (K : ByteArray → Option DV) : serinetteref02_Text k i f r o K = K (Z.txtQ k r o i f) := by
  obtain ⟨hs, hk, hr, ho⟩ := vld_sizes h
  have di := (dig_ok i (by omega)).2.2.2
  have df := (dig_ok f (by omega)).2.2.2
  unfold serinetteref02_Text B_serinetteref02_Text serinetteref02_Valid
  rw [decT ⟨by omega, by omega⟩, h]
  simp only [Bool.not_true, cond_bif_f]
  have s1 : (⟨#[40]⟩ : ByteArray).size = 1 := rfl
  have s2 : (⟨#[41]⟩ : ByteArray).size = 1 := rfl
  have s3 : (⟨#[44]⟩ : ByteArray).size = 1 := rfl
  have s4 : (⟨(Lib.decDigits i).toArray⟩ : ByteArray).size ≤ 2 := by rw [ba_size]; simpa using di
  have s5 : (⟨(Lib.decDigits f).toArray⟩ : ByteArray).size ≤ 2 := by rw [ba_size]; simpa using df
  rw [decF (by rw [i64max]; omega), itoa_eq (by omega)]
  generalize hdi : (⟨(Lib.decDigits i).toArray⟩ : ByteArray) = DI at *
  generalize hdf : (⟨(Lib.decDigits f).toArray⟩ : ByteArray) = DF at *
  rw [decF (by rw [i64max]; simp only [ByteArray.size_append]; omega), decF (by rw [i64max]; simp only [ByteArray.size_append]; omega), itoa_eq (by omega), hdf,
    decF (by rw [i64max]; simp only [ByteArray.size_append]; omega), decF (by rw [i64max]; simp only [ByteArray.size_append]; omega), decF (by rw [i64max]; simp only [ByteArray.size_append]; omega),
    decF (by rw [i64max]; simp only [ByteArray.size_append]; omega), decF (by rw [i64max]; simp only [ByteArray.size_append]; omega), decF (by rw [i64max]; simp only [ByteArray.size_append]; omega)]
  congr 1
  apply ba_ext
  rw [txt_l h, ← hdi, ← hdf]
  unfold tl
  simp only [ba_app]
  simp
theorem rtext_eq {k r o : ByteArray} {I F : Int} (bI : -9223372036854775808 ≤ I ∧ I ≤ 9223372036854775807) (bF : -9223372036854775808 ≤ F ∧ F ≤ 9223372036854775807) (K : ByteArray → Option DV) : serinetteref02_Text k I F r o K = K (Z.txtQ k r o I F) := by
  cases h : Z.vld k r o I F
  · unfold serinetteref02_Text B_serinetteref02_Text serinetteref02_Valid Z.txtQ
    rw [decT ⟨bI, bF⟩, h]
    simp [cond_bif_t]
  · obtain ⟨⟨i, f, rfl, rfl, _⟩, _⟩ := vld_fields h
    exact rtext_val h K
/-- That this choice is it. -/
def hit (s : ByteArray) (i f c : Nat) : Bool := Z.vld (chK c) (chR c) (chO c) i f && decide (Z.txtQ (chK c) (chR c) (chO c) i f = s)
theorem wrapN {i : Nat} (h : i < 100) : IntKind.wrap .i64 ((i : Int) + 1) = ((i + 1 : Nat) : Int) := by
  rw [IntWalk.i64_in _ (by omega)]; omega
theorem l10_eq (s : ByteArray) (i f : Nat) (hi : i ≤ 30) (hf : f ≤ 30) (r1 : ByteArray) (r2 r3 : Int) (r4 r5 : ByteArray) (κ) : ∀ m c : Nat, c ≤ 18 → 18 - c < m →
    (∃ c', c ≤ c' ∧ c' < 18 ∧ hit s i f c' = true ∧ LF (F_serinetteref02_Parse_l10 serinetteref02_Text serinetteref02_Valid serinetteref02_choice φ_serinetteref02_Parse_l10 φ_serinetteref02_Parse_l7 φ_serinetteref02_Parse_l4) m (.h0 s i f c r1 r2 r3 r4 r5) κ = κ.1 s 0 i f (chK c') i f (chR c') (chO c')) ∨
    ((∀ c', c ≤ c' → c' < 18 → hit s i f c' = false) ∧ LF (F_serinetteref02_Parse_l10 serinetteref02_Text serinetteref02_Valid serinetteref02_choice φ_serinetteref02_Parse_l10 φ_serinetteref02_Parse_l7 φ_serinetteref02_Parse_l4) m (.h0 s i f c r1 r2 r3 r4 r5) κ = κ.2 s i f r1 r2 r3 r4 r5)
  | 0, c, _, h => by omega
  | m + 1, c, hc, h => by
    have e0 : LF (F_serinetteref02_Parse_l10 serinetteref02_Text serinetteref02_Valid serinetteref02_choice φ_serinetteref02_Parse_l10 φ_serinetteref02_Parse_l7 φ_serinetteref02_Parse_l4) (m + 1) (.h0 s i f c r1 r2 r3 r4 r5) κ = B_serinetteref02_Parse_l10_h0 serinetteref02_Text serinetteref02_Valid serinetteref02_choice φ_serinetteref02_Parse_l10 φ_serinetteref02_Parse_l7 φ_serinetteref02_Parse_l4 s i f c r1 r2 r3 r4 r5 (fun x => LF (F_serinetteref02_Parse_l10 serinetteref02_Text serinetteref02_Valid serinetteref02_choice φ_serinetteref02_Parse_l10 φ_serinetteref02_Parse_l7 φ_serinetteref02_Parse_l4) m x κ) κ.1 κ.2 := rfl
    rw [e0]
    unfold B_serinetteref02_Parse_l10_h0
    by_cases hlt : c < 18
    · rw [decT (by omega), choice_eq _ _ _ hlt]
      unfold serinetteref02_Valid
      rw [decT ⟨by omega, by omega⟩]
      have ih := l10_eq s i f hi hf r1 r2 r3 r4 r5 κ m (c + 1) (by omega) (by omega)
      have step : ∀ y : Option DV, hit s i f c = false → y = LF (F_serinetteref02_Parse_l10 serinetteref02_Text serinetteref02_Valid serinetteref02_choice φ_serinetteref02_Parse_l10 φ_serinetteref02_Parse_l7 φ_serinetteref02_Parse_l4) m (.h0 s i f (IntKind.wrap .i64 ((c : Int) + 1)) r1 r2 r3 r4 r5) κ →
          (∃ c', c ≤ c' ∧ c' < 18 ∧ hit s i f c' = true ∧ y = κ.1 s 0 i f (chK c') i f (chR c') (chO c')) ∨ ((∀ c', c ≤ c' → c' < 18 → hit s i f c' = false) ∧ y = κ.2 s i f r1 r2 r3 r4 r5) := by
        intro y hn hy
        rw [wrapN (by omega)] at hy
        rcases ih with ⟨c', h1, h2, h3, h4⟩ | ⟨h1, h2⟩
        · exact .inl ⟨c', by omega, h2, h3, hy.trans h4⟩
        · refine .inr ⟨fun c' g1 g2 => ?_, hy.trans h2⟩
          by_cases e : c' = c
          · rw [e]; exact hn
          · exact h1 c' (by omega) g2
      cases hv : Z.vld (chK c) (chR c) (chO c) i f
      · exact step _ (by unfold hit; rw [hv]; rfl) rfl
      · simp only [cond_bif_t]
        rw [rtext_val hv, ba_beq]
        by_cases hx : Z.txtQ (chK c) (chR c) (chO c) i f = s
        · rw [decT hx]
          exact .inl ⟨c, Nat.le_refl _, hlt, by unfold hit; rw [hv, decide_eq_true hx]; rfl, rfl⟩
        · rw [decF hx]
          exact step _ (by unfold hit; rw [hv, decide_eq_false hx]; rfl) rfl
    · rw [decF (by omega)]
      exact .inr ⟨fun c' g1 g2 => by omega, rfl⟩
theorem l7_eq (s : ByteArray) (i : Nat) (hi : i ≤ 30) (r1 : ByteArray) (r2 r3 : Int) (r4 r5 : ByteArray) (κ) : ∀ m f : Nat, i + f ≤ 31 → 31 - i - f < m →
    (∃ f' c', f ≤ f' ∧ i + f' ≤ 30 ∧ c' < 18 ∧ hit s i f' c' = true ∧ LF (F_serinetteref02_Parse_l7 serinetteref02_Text serinetteref02_Valid serinetteref02_choice φ_serinetteref02_Parse_l10 φ_serinetteref02_Parse_l7 φ_serinetteref02_Parse_l4) m (.h0 s i f r1 r2 r3 r4 r5) κ = κ.1 s 0 i (chK c') i f' (chR c') (chO c')) ∨
    ((∀ f' c', f ≤ f' → i + f' ≤ 30 → c' < 18 → hit s i f' c' = false) ∧ LF (F_serinetteref02_Parse_l7 serinetteref02_Text serinetteref02_Valid serinetteref02_choice φ_serinetteref02_Parse_l10 φ_serinetteref02_Parse_l7 φ_serinetteref02_Parse_l4) m (.h0 s i f r1 r2 r3 r4 r5) κ = κ.2 s i r1 r2 r3 r4 r5)
  | 0, f, _, h => by omega
  | m + 1, f, hf, h => by
    have e0 : LF (F_serinetteref02_Parse_l7 serinetteref02_Text serinetteref02_Valid serinetteref02_choice φ_serinetteref02_Parse_l10 φ_serinetteref02_Parse_l7 φ_serinetteref02_Parse_l4) (m + 1) (.h0 s i f r1 r2 r3 r4 r5) κ = B_serinetteref02_Parse_l7_h0 serinetteref02_Text serinetteref02_Valid serinetteref02_choice φ_serinetteref02_Parse_l10 φ_serinetteref02_Parse_l7 φ_serinetteref02_Parse_l4 s i f r1 r2 r3 r4 r5 (fun x => LF (F_serinetteref02_Parse_l7 serinetteref02_Text serinetteref02_Valid serinetteref02_choice φ_serinetteref02_Parse_l10 φ_serinetteref02_Parse_l7 φ_serinetteref02_Parse_l4) m x κ) κ.1 κ.2 := rfl
    rw [e0]
    unfold B_serinetteref02_Parse_l7_h0
    rw [show IntKind.wrap .i64 ((i : Int) + f) = (i : Int) + f from IntWalk.i64_in _ (by omega)]
    by_cases hlt : i + f ≤ 30
    · rw [decT (by omega)]
      have ih := l7_eq s i hi r1 r2 r3 r4 r5 κ m (f + 1) (by omega) (by omega)
      have h10 := l10_eq s i f hi (by omega) r1 r2 r3 r4 r5 ((fun z8_0 z8_1 z8_2 z8_3 z8_4 z8_5 z8_6 z8_7 z8_8 => κ.1 z8_0 z8_1 z8_2 z8_4 z8_5 z8_6 z8_7 z8_8), (fun z9_0 z9_1 z9_2 z9_3 z9_4 z9_5 z9_6 z9_7 => LF (F_serinetteref02_Parse_l7 serinetteref02_Text serinetteref02_Valid serinetteref02_choice φ_serinetteref02_Parse_l10 φ_serinetteref02_Parse_l7 φ_serinetteref02_Parse_l4) m (.h0 z9_0 z9_1 (IntKind.wrap .i64 (z9_2 + 1)) z9_3 z9_4 z9_5 z9_6 z9_7) κ)) 19 0 (by omega) (by omega)
      rcases h10 with ⟨c', _, h2, h3, h4⟩ | ⟨h1, h2⟩
      · exact .inl ⟨f, c', Nat.le_refl _, hlt, h2, h3, h4⟩
      · simp only [wrapN (show f < 100 by omega)] at h2
        rcases ih with ⟨f', c', g1, g2, g3, g4, g5⟩ | ⟨g1, g2⟩
        · exact .inl ⟨f', c', by omega, g2, g3, g4, h2.trans g5⟩
        · refine .inr ⟨fun f' c' p1 p2 p3 => ?_, h2.trans g2⟩
          by_cases e : f' = f
          · rw [e]; exact h1 c' (by omega) p3
          · exact g1 f' c' (by omega) p2 p3
    · rw [decF (by omega)]
      exact .inr ⟨fun f' c' p1 p2 p3 => by omega, rfl⟩
theorem l4_eq (s : ByteArray) (r1 : ByteArray) (r2 r3 : Int) (r4 r5 : ByteArray) (κ) : ∀ m i : Nat, i ≤ 31 → 31 - i < m →
    (∃ i' f' c', i ≤ i' ∧ i' + f' ≤ 30 ∧ c' < 18 ∧ hit s i' f' c' = true ∧ LF (F_serinetteref02_Parse_l4 serinetteref02_Text serinetteref02_Valid serinetteref02_choice φ_serinetteref02_Parse_l10 φ_serinetteref02_Parse_l7 φ_serinetteref02_Parse_l4) m (.h0 s i r1 r2 r3 r4 r5) κ = κ.1 0 (chK c') i' f' (chR c') (chO c')) ∨
    ((∀ i' f' c', i ≤ i' → i' + f' ≤ 30 → c' < 18 → hit s i' f' c' = false) ∧ LF (F_serinetteref02_Parse_l4 serinetteref02_Text serinetteref02_Valid serinetteref02_choice φ_serinetteref02_Parse_l10 φ_serinetteref02_Parse_l7 φ_serinetteref02_Parse_l4) m (.h0 s i r1 r2 r3 r4 r5) κ = κ.2 r1 r2 r3 r4 r5)
  | 0, i, _, h => by omega
  | m + 1, i, hi, h => by
    have e0 : LF (F_serinetteref02_Parse_l4 serinetteref02_Text serinetteref02_Valid serinetteref02_choice φ_serinetteref02_Parse_l10 φ_serinetteref02_Parse_l7 φ_serinetteref02_Parse_l4) (m + 1) (.h0 s i r1 r2 r3 r4 r5) κ = B_serinetteref02_Parse_l4_h0 serinetteref02_Text serinetteref02_Valid serinetteref02_choice φ_serinetteref02_Parse_l10 φ_serinetteref02_Parse_l7 φ_serinetteref02_Parse_l4 s i r1 r2 r3 r4 r5 (fun x => LF (F_serinetteref02_Parse_l4 serinetteref02_Text serinetteref02_Valid serinetteref02_choice φ_serinetteref02_Parse_l10 φ_serinetteref02_Parse_l7 φ_serinetteref02_Parse_l4) m x κ) κ.1 κ.2 := rfl
    rw [e0]
    unfold B_serinetteref02_Parse_l4_h0
    by_cases hlt : i ≤ 30
    · rw [decT (by omega)]
      have ih := l4_eq s r1 r2 r3 r4 r5 κ m (i + 1) (by omega) (by omega)
      have h7 := l7_eq s i hlt r1 r2 r3 r4 r5 ((fun z10_0 z10_1 z10_2 z10_3 z10_4 z10_5 z10_6 z10_7 => κ.1 z10_1 z10_3 z10_4 z10_5 z10_6 z10_7), (fun z11_0 z11_1 z11_2 z11_3 z11_4 z11_5 z11_6 => LF (F_serinetteref02_Parse_l4 serinetteref02_Text serinetteref02_Valid serinetteref02_choice φ_serinetteref02_Parse_l10 φ_serinetteref02_Parse_l7 φ_serinetteref02_Parse_l4) m (.h0 z11_0 (IntKind.wrap .i64 (z11_1 + 1)) z11_2 z11_3 z11_4 z11_5 z11_6) κ)) (Int.toNat (31 - i - 0) + 1) 0 (by omega) (by omega)
      rcases h7 with ⟨f', c', _, h2, h3, h4, h5⟩ | ⟨h1, h2⟩
      · exact .inl ⟨i, f', c', Nat.le_refl _, h2, h3, h4, h5⟩
      · simp only [wrapN (show i < 100 by omega)] at h2
        rcases ih with ⟨i', f', c', g1, g2, g3, g4, g5⟩ | ⟨g1, g2⟩
        · exact .inl ⟨i', f', c', by omega, g2, g3, g4, h2.trans g5⟩
        · refine .inr ⟨fun i' f' c' p1 p2 p3 => ?_, h2.trans g2⟩
          by_cases e : i' = i
          · rw [e]; exact h1 f' c' (by omega) (by omega) p3
          · exact g1 i' f' c' (by omega) p2 p3
    · rw [decF (by omega)]
      exact .inr ⟨fun i' f' c' p1 p2 p3 => by omega, rfl⟩
theorem txt_size {k r o : ByteArray} {i f : Nat} (h : Z.vld k r o i f = true) : (Z.txtQ k r o i f).size ≤ 30 := by
  obtain ⟨hs, hk, hr, ho⟩ := vld_sizes h
  have di := (dig_ok i (by omega)).2.2.2
  have df := (dig_ok f (by omega)).2.2.2
  rw [ba_size] at hk hr ho ⊢
  rw [txt_l h]
  unfold tl
  simp only [List.length_append, List.length_cons, List.length_nil]
  omega
/-- Both read the same. -/
theorem rparse_eq (s : ByteArray) (K : ByteArray → Int → Int → ByteArray → ByteArray → Int → Option DV) : serinetteref02_Parse s K = givePF (qres s) K := by
  unfold serinetteref02_Parse B_serinetteref02_Parse
  have nothing : (∀ i f c : Nat, i + f ≤ 30 → c < 18 → hit s i f c = false) → qres s = none := by
    intro h
    cases hq : qres s with
    | none => rfl
    | some x =>
      obtain ⟨k, I, F, r, o⟩ := x
      obtain ⟨h1, h2⟩ := qres_sound hq
      obtain ⟨⟨i, f, rfl, rfl, hs⟩, hk, hr, ho⟩ := vld_fields h1
      obtain ⟨c, hc, rfl, rfl, rfl⟩ := choice_full hk hr ho
      have := h i f c hs hc
      unfold hit at this
      rw [h1, decide_eq_true h2] at this
      cases this
  by_cases hs : s.size ≤ 30
  · rw [decF (by omega)]
    rcases l4_eq s ⟨#[]⟩ 0 0 ⟨#[]⟩ ⟨#[]⟩ ((fun z12_0 z12_1 z12_2 z12_3 z12_4 z12_5 => K z12_1 z12_2 z12_3 z12_4 z12_5 z12_0), (fun _ _ _ _ _ => K ⟨#[]⟩ 0 0 ⟨#[]⟩ ⟨#[]⟩ 3)) 32 0 (by omega) (by omega) with ⟨i, f, c, _, h2, h3, h4, h5⟩ | ⟨h1, h2⟩
    · refine h5.trans ?_
      unfold hit at h4
      simp only [Bool.and_eq_true, decide_eq_true_eq] at h4
      rw [← h4.2, qres_full h4.1]; rfl
    · refine h2.trans ?_
      rw [nothing fun i f c g1 g2 => h1 i f c (by omega) g1 g2]; rfl
  · rw [decT (by omega)]
    have : qres s = none := by
      cases hq : qres s with
      | none => rfl
      | some x =>
        obtain ⟨k, I, F, r, o⟩ := x
        obtain ⟨h1, h2⟩ := qres_sound hq
        obtain ⟨⟨i, f, rfl, rfl, _⟩, _⟩ := vld_fields h1
        have := txt_size h1
        rw [h2] at this
        exact absurd this hs
    rw [this]; rfl
/-- The law answers true. -/
theorem formatparses_true (s k r o : ByteArray) (I F : Int) (hs : s.size < 4294967281) (bI : -9223372036854775808 ≤ I ∧ I ≤ 9223372036854775807) (bF : -9223372036854775808 ≤ F ∧ F ≤ 9223372036854775807) (K : Bool → Option DV) : serinettelaw02_FormatParses s k I F r o K = K true := by
  unfold serinettelaw02_FormatParses B_serinettelaw02_FormatParses serinettelaw02_awake
  rw [qparse_eq s hs]
  simp only [rparse_eq]
  have qt : ∀ K : ByteArray → Option DV, quant_Text k I F r o K = K (Z.txtQ k r o I F) := fun K => by unfold quant_Text; rw [decT ⟨bI, bF⟩]
  have rv : ∀ K : Bool → Option DV, serinetteref02_Valid k I F r o K = K (Z.vld k r o I F) := fun K => by unfold serinetteref02_Valid; rw [decT ⟨bI, bF⟩]
  have back : quant_Parse (Z.txtQ k r o I F) = givePF (if Z.vld k r o I F = true then some (k, I, F, r, o) else none) := by
    funext K
    cases hv : Z.vld k r o I F
    · have : Z.txtQ k r o I F = ⟨#[]⟩ := by unfold Z.txtQ; rw [hv]; rfl
      rw [this, qparse_eq _ (by decide), qres_empty]; rfl
    · rw [qparse_eq _ (by obtain ⟨⟨i, f, rfl, rfl, _⟩, _⟩ := vld_fields hv; have := txt_size hv; omega), qres_full hv]; rfl
  have fin : ∀ (a b c d : ByteArray) (x y : Int), ((ByteArray.toList a == ByteArray.toList a) && ((x == x) && ((y == y) && ((ByteArray.toList b == ByteArray.toList b) && ((ByteArray.toList c == ByteArray.toList c) && true))))) = true := by intros; simp
  have rest : ∀ (r1 : ByteArray) (r2 r3 : Int) (r4 r5 : ByteArray) (e : Int),
      (quant_Text k I F r o fun r13 => bif !(!((ByteArray.toList r1 == ByteArray.toList r1) && ((r2 == r2) && ((r3 == r3) && ((ByteArray.toList r4 == ByteArray.toList r4) && ((ByteArray.toList r5 == ByteArray.toList r5) && true)))))) then (bif !(e != e) then (serinetteref02_Text k I F r o fun r14 => bif !(ByteArray.toList r13 == ByteArray.toList r14) then K false else quant_Parse r13 fun r15 r16 r17 r18 r19 r20 => serinetteref02_Valid k I F r o fun r21 => bif !r21 then (bif (ByteArray.toList r13 == ByteArray.toList (⟨#[]⟩)) then (bif r20 == 3 then K true else K false) else K false) else (bif r20 == 0 then (bif ((ByteArray.toList r15 == ByteArray.toList k) && ((r16 == I) && ((r17 == F) && ((ByteArray.toList r18 == ByteArray.toList r) && ((ByteArray.toList r19 == ByteArray.toList o) && true))))) then K true else K false) else K false)) else K false) else K false) = K true := by
    intro r1 r2 r3 r4 r5 e
    rw [qt, rtext_eq bI bF]
    simp only [beq_self_eq_true, bne_self_eq_false, Bool.and_self, Bool.not_true, Bool.not_false, cond_bif_t, cond_bif_f]
    rw [back]
    cases hv : Z.vld k r o I F
    · have : Z.txtQ k r o I F = ⟨#[]⟩ := by unfold Z.txtQ; rw [hv]; rfl
      rw [this]
      simp only [Bool.false_eq_true, if_false, givePF, rv, hv, Bool.not_false, beq_self_eq_true, cond_bif_t]
    · simp only [if_true, givePF, rv, hv, Bool.not_true, beq_self_eq_true, Bool.and_self, cond_bif_t, cond_bif_f]
  cases qres s with
  | none => exact rest ⟨#[]⟩ 0 0 ⟨#[]⟩ ⟨#[]⟩ 3
  | some x => obtain ⟨a, b, c, d, e⟩ := x; exact rest a b c d e 0
end Go.Proofs.YtpdklolfkigefaaDoor
